/-
  New: a dictionary of entries that may be, each at a place of its own.
-/
import Derived.Test.YtajllkkbgpijiaaGreatDoorDf
import Derived.Test.YtajllkkbgpijiaaGreatDoorTk9
namespace Go.Proofs.YtajllkkbgpijiaaGreatDoor
open Go.RowKit

/-- An entry that came in. -/
structure Em where
  i : Int
  s : Int
  nm : ByteArray
  t : Int
  rt : Int
  d : Option Addr
  ld : Nat
  cd : Nat
  l : Option Addr
  ll : Nat
  cl : Nat
  h : Option Addr
  lh : Nat
  ch : Nat
  tg : Int
  gr : Int
  zd : List Int
  zl : List Int
  zh : List Int
/-- It may be one. -/
structure EmOk (w : World) (e : Em) : Prop where
  rd : SlOk w e.d e.ld e.cd e.zd
  rl : SlOk w e.l e.ll e.cl e.zl
  rh : SlOk w e.h e.lh e.ch e.zh
  b1 : e.ld ≤ 16777216
  b2 : e.ll ≤ 16777216
  b3 : e.lh ≤ 16777216
  hk : Ty.Pl.kindN e.t ≠ 0
  hr : e.rt ≤ 15
  hg : e.gr ≤ 16
  hn : e.nm.size ≤ 100
  hL : boundB e.t e.zl = true
  hH : boundB e.t e.zh = true
  hc : Ty.chkN e.t (firstL e.t e.zd) e.zl e.zh = 0
/-- Where the entries lie. -/
def EmAt (w : World) (eb k : Nat) (e : Em) : Prop := w.cell? ⟨eb, k * 10, none⟩ = some (.int .u16 e.i) ∧ w.cell? ⟨eb, k * 10 + 1, none⟩ = some (.int .u8 e.s) ∧ w.cell? ⟨eb, k * 10 + 2, none⟩ = some (.string e.nm) ∧ w.cell? ⟨eb, k * 10 + 3, none⟩ = some (.int .u8 e.t) ∧ w.cell? ⟨eb, k * 10 + 4, none⟩ = some (.int .u8 e.rt) ∧ w.cell? ⟨eb, k * 10 + 5, none⟩ = some (.slice e.d e.ld e.cd) ∧ w.cell? ⟨eb, k * 10 + 6, none⟩ = some (.slice e.l e.ll e.cl) ∧ w.cell? ⟨eb, k * 10 + 7, none⟩ = some (.slice e.h e.lh e.ch) ∧ w.cell? ⟨eb, k * 10 + 8, none⟩ = some (.int .u8 e.tg) ∧ w.cell? ⟨eb, k * 10 + 9, none⟩ = some (.int .u8 e.gr)
/-- What was made of an entry: rows of its own, from a block on. -/
def Kept (w : World) (lo : Nat) (a : Option Addr) (len cap : Nat) (zs : List Int) : Prop := SlOk w a len cap zs ∧ (0 < len → ∀ b off, a = some ⟨b, off, none⟩ → lo ≤ b)
theorem Row.kps {w w' : World} {S : List Nat} {a : Option Addr} {len : Nat} {zs : List Int} (h : Row w a len zs) (k : Kp S w w') (hne : 0 < len → ∀ b off, a = some ⟨b, off, none⟩ → b ∉ S) : Row w' a len zs where
  size := h.size
  oct := h.oct
  at_ := fun hl => by
    obtain ⟨b, off, e, hc⟩ := h.at_ hl
    refine ⟨b, off, e, fun i hi => ?_⟩
    have hb := h.old hl b off e
    have := k.block b hb (hne hl b off e)
    rw [← hc i hi]
    simp only [World.cell?, this]
theorem Kept.kp {w w' : World} {lo : Nat} {S : List Nat} {a : Option Addr} {len cap : Nat} {zs : List Int} (h : Kept w lo a len cap zs) (k : Kp S w w') (hS : ∀ b ∈ S, b < lo ∨ w.heap.size ≤ b) : Kept w' lo a len cap zs :=
  ⟨⟨h.1.row.kps k (fun hl b off e hb => by have h1 := h.2 hl b off e; have h2 := h.1.row.old hl b off e; rcases hS b hb with h3 | h3 <;> omega), h.1.le, h.1.max⟩, h.2⟩
theorem Told.kept {w w' : World} {lo : Nat} {a : Option Addr} {len cap : Nat} {zs : List Int} (h : Told w w' a len cap zs) (hlo : lo ≤ w.heap.size) : Kept w' lo a len cap zs :=
  ⟨h.sl, fun hl b off e => by obtain ⟨g, e', hg, _⟩ := h.own hl; rw [e] at e'; cases e'; omega⟩
/-- What stands in the map, entry by entry. -/
def Built (w : World) (lo : Nat) (es : List Em) (lst : Mp) : Prop := lst.length = es.length ∧ ∀ (k : Nat) (e : Em), es[k]? = some e →
  ∃ a1 c1 a2 c2 a3 c3 v lv cv, lst[k]? = some (e.i, e.s, .agg (itC e.i e.s e.nm e.t e.rt a1 e.ld c1 a2 e.ll c2 a3 e.lh c3 e.tg e.gr v lv cv)) ∧ Kept w lo a1 e.ld c1 e.zd ∧ Kept w lo a2 e.ll c2 e.zl ∧ Kept w lo a3 e.lh c3 e.zh ∧ Kept w lo v lv cv (firstL e.t e.zd)
theorem Built.kp {w w' : World} {lo : Nat} {S : List Nat} {es : List Em} {lst : Mp} (h : Built w lo es lst) (k : Kp S w w') (hS : ∀ b ∈ S, b < lo ∨ w.heap.size ≤ b) : Built w' lo es lst :=
  ⟨h.1, fun q e he => by
    obtain ⟨a1, c1, a2, c2, a3, c3, v, lv, cv, g, k1, k2, k3, k4⟩ := h.2 q e he
    exact ⟨a1, c1, a2, c2, a3, c3, v, lv, cv, g, k1.kp k hS, k2.kp k hS, k3.kp k hS, k4.kp k hS⟩⟩
theorem Built.key {w : World} {lo : Nat} {es : List Em} {lst : Mp} (h : Built w lo es lst) (i s : Int) (hn : ∀ e ∈ es, ¬ (i = e.i ∧ s = e.s)) : lookP lst i s = none := by
  have : ∀ x ∈ lst, ¬ (i = x.1 ∧ s = x.2.1) := fun x hx => by
    obtain ⟨k, hk, e⟩ := List.getElem_of_mem hx
    have hk' : k < es.length := by have := h.1; omega
    obtain ⟨_, _, _, _, _, _, _, _, _, g, _⟩ := h.2 k es[k] (List.getElem?_eq_getElem hk')
    rw [List.getElem?_eq_getElem hk, e] at g
    cases g
    exact hn _ (List.getElem_mem _)
  clear h hn
  induction lst with
  | nil => rfl
  | cons x l ih =>
    simp only [lookP]
    rw [if_neg (by have := this x (by simp); simpa using this)]
    exact ih fun y hy => this y (by simp [hy])
theorem look_put {lst : Mp} {i s : Int} {v : Value} (h : lookP lst i s = none) : putP lst i s v = lst ++ [(i, s, v)] := by
  refine idxP_none lst i s v 0 ?_
  have := idxP_look lst i s 0
  rw [h] at this
  cases hq : idxP lst i s 0 with
  | none => rfl
  | some y => rw [hq] at this; cases this
theorem Built.snoc {w : World} {lo : Nat} {es : List Em} {lst : Mp} (h : Built w lo es lst) (e : Em) (x : Int × Int × Value)
    (hx : ∃ a1 c1 a2 c2 a3 c3 v lv cv, x = (e.i, e.s, .agg (itC e.i e.s e.nm e.t e.rt a1 e.ld c1 a2 e.ll c2 a3 e.lh c3 e.tg e.gr v lv cv)) ∧ Kept w lo a1 e.ld c1 e.zd ∧ Kept w lo a2 e.ll c2 e.zl ∧ Kept w lo a3 e.lh c3 e.zh ∧ Kept w lo v lv cv (firstL e.t e.zd)) : Built w lo (es ++ [e]) (lst ++ [x]) := by
  refine ⟨by simp [h.1], fun k e' he => ?_⟩
  by_cases hk : k < es.length
  · rw [List.getElem?_append_left hk] at he
    rw [List.getElem?_append_left (by have := h.1; omega)]
    exact h.2 k e' he
  · have hk2 : k = es.length := by
      have := (List.getElem?_eq_some_iff.1 he).1
      simp at this
      omega
    subst hk2
    rw [List.getElem?_append_right (Nat.le_refl _)] at he
    simp at he
    subst he
    obtain ⟨a1, c1, a2, c2, a3, c3, v, lv, cv, rfl, g⟩ := hx
    exact ⟨a1, c1, a2, c2, a3, c3, v, lv, cv, by rw [← h.1]; simp, g⟩
theorem makeMap_run (n : Int) (w : World) : (Instr.makeMap 89 (some (.int .i64 n))).run Tryz.prog w = .ok (.map (some w.heap.size)) (w.alloc (.map #[] 0)) := by kernel_rfl
theorem zero_item (w : World) : (zeroValue 95).run Tryz.prog w = .ok (.agg (itC 0 0 ⟨#[]⟩ 0 0 none 0 0 none 0 0 none 0 0 0 0 none 0 0)) w := by kernel_rfl
theorem NF {w : World} {a : Option Addr} {n c : Nat} {t : Int} {zd : List Int} (h : SlOk w a n c (firstL t zd)) (hz : zd.length ≤ 16777216) : n ≤ 16777216 := by
  rw [← h.row.size]
  unfold firstL
  split
  · exact hz
  · have := Ty.Pl.size_bd t; simp [Ty.zeros]; omega
/-- A dictionary was made. -/
def NewPost (es : List Em) (w : World) (r : Ending) (w' : World) : Prop :=
  ∃ lst, r = .returned (.tuple #[.pointer (some ⟨w.heap.size + 1, 0, none⟩), .int .i64 0]) ∧ Below w.heap.size w w' ∧ w'.heap[w.heap.size + 1]? = some (.cells #[.map (some w.heap.size), .int .i64 0] 91 (0, 0)) ∧ IsM w' w.heap.size lst ∧ Built w' (w.heap.size + 2) es lst

set_option linter.unusedSimpArgs false in
set_option maxHeartbeats 4000000 in
set_option maxRecDepth 100000 in
theorem new_at (eb cap : Nat) (es : List Em) (w : World) (hN : es.length ≤ 1024) (hok : ∀ e ∈ es, EmOk w e) (hat : ∀ (k : Nat) (e : Em), es[k]? = some e → EmAt w eb k e) (hdis : ∀ (k : Nat) (e : Em), es[k]? = some e → ∀ e' ∈ es.take k, ¬ (e.i = e'.i ∧ e.s = e'.s)) (hT : Ty.Tab64 w) :
    Calls Tryz.prog 14 #[.slice (some ⟨eb, 0, none⟩) es.length cap] w (NewPost es w) := by
  obtain ⟨N, HN⟩ : ∃ N, Hid (es.length = N) := ⟨_, rfl⟩
  have HOK : Hid (∀ e ∈ es, EmOk w e) := hok
  have HAT : Hid (∀ (k : Nat) (e : Em), es[k]? = some e → EmAt w eb k e) := hat
  have HDI : Hid (∀ (k : Nat) (e : Em), es[k]? = some e → ∀ e' ∈ es.take k, ¬ (e.i = e'.i ∧ e.s = e'.s)) := hdis
  have HT : Hid (Ty.Tab64 w) := hT
  have hmm := makeMap_run
  clear hok hat hdis hT
  rw [HN.out] at hN ⊢
  have hN' : ¬ (1024 : Int) < (N : Int) := by omega
  go_enter Tryz.func14, Tryz.ntmps14
  go_wp2_with fail
  clear hmm
  go_loopw [20] (fun iv wr => ∃ k : Nat, k ≤ N ∧ iv = .int .i64 (k : Int) ∧ Hid (Below w.heap.size w wr ∧ wr.heap[w.heap.size + 1]? = some (.cells #[.map (some w.heap.size), .int .i64 0] 91 (0, 0)) ∧ ∃ lst, IsM wr w.heap.size lst ∧ Built wr (w.heap.size + 2) (es.take k) lst)) (fun iv _ => N - (intOf iv).toNat)
  case atStart => exact ⟨0, Nat.zero_le _, rfl, (by repeat (first | exact Below.refl _ _ | apply Below.drew | apply Below.al)), at11 _ _ _ (by simp), [], (isM_new w).next (by repeat (first | exact Below.refl _ _ | apply Below.drew | apply Below.al)), by simp, fun k e he => by simp at he⟩
  case round =>
    obtain ⟨k, hk, rfl, HI⟩ := hrel
    obtain ⟨hB0, hP0, lst, hM0, hBu0⟩ := HI.out
    have BR : Hid (Below w.heap.size w wr) := hB0
    have PR : Hid (wr.heap[w.heap.size + 1]? = some (.cells #[.map (some w.heap.size), .int .i64 0] 91 (0, 0))) := hP0
    have MR : Hid (IsM wr w.heap.size lst) := hM0
    have BUR : Hid (Built wr (w.heap.size + 2) (es.take k) lst) := hBu0
    clear hB0 hP0 hM0 hBu0 HI
    have lpr : w.heap.size + 1 < wr.heap.size := lt_of_heap PR.out
    by_cases hlt : k < N
    · have hlt' : (k : Int) < (N : Int) := by omega
      have HK : Hid (k < N) := hlt
      have hk9 : k < es.length := by have := HN.out; omega
      obtain ⟨e, hE⟩ : ∃ e, es[k]? = some e := ⟨es[k], List.getElem?_eq_getElem hk9⟩
      have HE : Hid (es[k]? = some e) := hE
      have hin : e ∈ es := List.mem_of_getElem? hE
      have hOK := HOK.out e hin
      have hAT := HAT.out k e hE
      have HL : Hid (lookP lst e.i e.s = none) := BUR.out.key _ _ (HDI.out k e hE)
      have HTK : Hid (es.take (k + 1) = es.take k ++ [e]) := by show _ = _; rw [List.take_succ_eq_append_getElem hk9]; congr; exact (Option.some.inj ((List.getElem?_eq_getElem hk9).symm.trans hE))
      obtain ⟨i, s, nm, t, rt, d, ld, cd, l, ll, cl, h, lh, ch, tg, gr, zd, zl, zh⟩ := e
      dsimp only [EmAt] at hAT
      obtain ⟨rd, rl, rh, b1, b2, b3, hkk, hrr, hgg, hnn, hLL, hHH, hcc⟩ := hOK
      dsimp only at HL rd rl rh b1 b2 b3 hkk hrr hgg hnn hLL hHH hcc
      have HCO : Hid (∀ W, Below w.heap.size w W → Calls Tryz.prog 37 #[.agg (enC i s nm t rt d ld cd l ll cl h lh ch tg gr)] W (CopyPost i s nm t rt ld ll lh tg gr zd zl zh W)) := fun W hb => copyOf_any i s nm t rt d ld cd l ll cl h lh ch tg gr zd zl zh W (rd.next hb) (rl.next hb) (rh.next hb) b1 b2 b3
      have HFI : Hid (∀ W, Below w.heap.size w W → Calls Tryz.prog 39 #[.agg (enC i s nm t rt d ld cd l ll cl h lh ch tg gr)] W fun e w' => ∃ a n c, e = .returned (.slice a n c) ∧ SlOk w' a n c (firstL t zd) ∧ Below W.heap.size W w') := fun W hb => atFirst_any i s nm t rt d ld cd l ll cl h lh ch tg gr zd W (rd.next hb)
      have HMB : Hid (∀ W, Below w.heap.size w W → Calls Tryz.prog 35 #[.agg (enC i s nm t rt d ld cd l ll cl h lh ch tg gr)] W fun e w' => e = .returned (.bool true) ∧ Below W.heap.size W w') := fun W hb => mayBe_yes i s nm t rt d ld cd l ll cl h lh ch tg gr zd zl zh W (rd.next hb) (rl.next hb) (rh.next hb) (tab_next HT.out hb) hkk hrr hgg hnn hLL hHH hcc
      have hzd : zd.length ≤ 16777216 := by rw [rd.row.size]; exact b1
      have NF := fun {W : World} {a : Option Addr} {n c : Nat} (hq : SlOk W a n c (firstL t zd)) => NF hq hzd
      obtain ⟨m0, m1, m2, m3, m4, m5, m6, m7, m8, m9⟩ := hAT
      have g0 : wr.cell? ⟨eb, k * 10, none⟩ = some (.int .u16 i) := (BR.out.cell (block_lt_of_cell m0)).trans m0
      have g1 : wr.cell? ⟨eb, k * 10 + 1, none⟩ = some (.int .u8 s) := (BR.out.cell (block_lt_of_cell m1)).trans m1
      have g2 : wr.cell? ⟨eb, k * 10 + 2, none⟩ = some (.string nm) := (BR.out.cell (block_lt_of_cell m2)).trans m2
      have g3 : wr.cell? ⟨eb, k * 10 + 3, none⟩ = some (.int .u8 t) := (BR.out.cell (block_lt_of_cell m3)).trans m3
      have g4 : wr.cell? ⟨eb, k * 10 + 4, none⟩ = some (.int .u8 rt) := (BR.out.cell (block_lt_of_cell m4)).trans m4
      have g5 : wr.cell? ⟨eb, k * 10 + 5, none⟩ = some (.slice d ld cd) := (BR.out.cell (block_lt_of_cell m5)).trans m5
      have g6 : wr.cell? ⟨eb, k * 10 + 6, none⟩ = some (.slice l ll cl) := (BR.out.cell (block_lt_of_cell m6)).trans m6
      have g7 : wr.cell? ⟨eb, k * 10 + 7, none⟩ = some (.slice h lh ch) := (BR.out.cell (block_lt_of_cell m7)).trans m7
      have g8 : wr.cell? ⟨eb, k * 10 + 8, none⟩ = some (.int .u8 tg) := (BR.out.cell (block_lt_of_cell m8)).trans m8
      have g9 : wr.cell? ⟨eb, k * 10 + 9, none⟩ = some (.int .u8 gr) := (BR.out.cell (block_lt_of_cell m9)).trans m9
      clear rd rl rh b1 b2 b3 hkk hrr hgg hnn hLL hHH hcc hE hin hlt hk9 m0 m1 m2 m3 m4 m5 m6 m7 m8 m9
      go_wp2_with (refine wpList_load_by rfl 52 _ rfl ⟨wr.heap.size, 0, none⟩ _ rfl (loadE _ _ i s nm t rt d ld cd l ll cl h lh ch tg gr _ (at11 _ _ _ rfl)) ?_)
      clear g0 g1 g2 g3 g4 g5 g6 g7 g8 g9
      refine (HMB.out _ (Below.al BR.out _)).mono ?_
      rintro r w1 ⟨rfl, hb⟩
      have B1 : Hid (Below wr.heap.size wr w1) := Below.andThen (Below.al (Below.refl _ _) _) hb
      have E1 : Hid (w1.heap[wr.heap.size]? = some (.cells (enC i s nm t rt d ld cd l ll cl h lh ch tg gr) 52 (0, 0))) := blk11 hb (at11 _ _ _ rfl)
      have le1 := lt_of_heap E1.out
      clear hb
      go_wp2_with (refine wpList_load_by rfl 52 _ rfl ⟨wr.heap.size, 0, none⟩ _ rfl (loadE _ _ i s nm t rt d ld cd l ll cl h lh ch tg gr _ E1.out) ?_)
      refine (placeOf_any i s nm t rt d ld cd l ll cl h lh ch tg gr _).mono ?_
      rintro r w2 ⟨rfl, hb⟩
      have B2 : Hid (Below wr.heap.size wr w2) := Below.andThen B1.out hb
      have E2 : Hid (w2.heap[wr.heap.size]? = some (.cells (enC i s nm t rt d ld cd l ll cl h lh ch tg gr) 52 (0, 0))) := blk11 hb E1.out
      have le2 := lt_of_heap E2.out
      clear hb
      go_wp2_with fail
      obtain ⟨W3, HW3⟩ : ∃ W3, Hid (w2.alloc (.cells #[.int .u16 i, .int .u8 s] 43) = W3) := ⟨_, rfl⟩
      have B3 : Hid (Below wr.heap.size wr W3) := by show Below _ _ _; rw [← HW3.out]; exact Below.al B2.out _
      have E3 : Hid (W3.heap[wr.heap.size]? = some (.cells (enC i s nm t rt d ld cd l ll cl h lh ch tg gr) 52 (0, 0))) := by show _ = _; rw [← HW3.out]; exact ext11 E2.out
      have L3 : Hid (W3.heap[w2.heap.size]? = some (.cells #[.int .u16 i, .int .u8 s] 43 (0, 0))) := by show _ = _; rw [← HW3.out]; exact at11 _ _ _ rfl
      have P3 : Hid (W3.heap[w.heap.size + 1]? = some (.cells #[.map (some w.heap.size), .int .i64 0] 91 (0, 0))) := blk11 B3.out PR.out
      have M3 : Hid (IsM W3 w.heap.size lst) := MR.out.next B3.out
      have S3 : Hid (wr.heap.size ≤ W3.heap.size) := B3.out.size
      have ll3 := lt_of_heap L3.out
      rw [HW3.out]
      refine wp_region_held_drew (S := fun x => Below wr.heap.size wr x ∧ x.heap[w.heap.size + 1]? = some (.cells #[.map (some w.heap.size), .int .i64 0] 91 (0, 0)) ∧ IsM x w.heap.size lst ∧ x.heap[wr.heap.size]? = some (.cells (enC i s nm t rt d ld cd l ll cl h lh ch tg gr) 52 (0, 0)) ∧ x.heap[w2.heap.size]? = some (.cells #[.int .u16 i, .int .u8 s] 43 (0, 0))) (by kernel_rfl) (⟨Below.drew B3.out, P3.out, M3.out, E3.out, L3.out⟩) (fun hHeld => ?_)
      refine tk 0 (.pointer (some ⟨w.heap.size + 1, 0, none⟩)) rfl (.inl ⟨by rfl, ?_⟩) ?_
      · intro w9 hSw
        try dsimp only at hSw
        go_simp
        all_goals try decide
        all_goals try assumption
        all_goals try omega
      try simp only [Act.put, gA, gS, gZ, sA, sZ, sS]
      refine tk 1 (.pointer (some ⟨w.heap.size + 1, 0, none⟩)) rfl (.inl ⟨by rfl, ?_⟩) ?_
      · intro w9 hSw
        try dsimp only at hSw
        go_simp
        all_goals try decide
        all_goals try assumption
        all_goals try omega
      try simp only [Act.put, gA, gS, gZ, sA, sZ, sS]
      refine tk 2 (.pointer (some ⟨w.heap.size + 1, 0, none⟩)) rfl (.inl ⟨by rfl, ?_⟩) ?_
      · intro w9 hSw
        try dsimp only at hSw
        go_simp
        all_goals try decide
        all_goals try assumption
        all_goals try omega
      try simp only [Act.put, gA, gS, gZ, sA, sZ, sS]
      refine tk 3 (.map (some w.heap.size)) rfl (.inl ⟨by rfl, ?_⟩) ?_
      · intro w9 hSw
        try dsimp only at hSw
        have c0 : w9.cell? ⟨w.heap.size + 1, 0, none⟩ = some (.map (some w.heap.size)) := by rw [cell_of_row _ _ 0 _ _ _ hSw.2.1]; rfl
        go_simp
        all_goals try assumption
      try simp only [Act.put, gA, gS, gZ, sA, sZ, sS]
      refine tk 4 (plV i s) rfl (.inl ⟨by rfl, ?_⟩) ?_
      · intro w9 hSw
        try dsimp only at hSw
        exact ex_load11 43 (.tmp 7) rfl _ _ rfl (load_part 43 2 sizeP aggP _ (w2.heap.size) 0 [.int .u16 i, .int .u8 s] _ hSw.2.2.2.2 (by simp))
      try simp only [Act.put, gA, gS, gZ, sA, sZ, sS]
      refine tk 5 (.tuple #[.agg (itC 0 0 ⟨#[]⟩ 0 0 none 0 0 none 0 0 none 0 0 0 0 none 0 0), .bool false]) rfl (.inl ⟨by rfl, ?_⟩) ?_
      · intro w9 hSw
        try dsimp only at hSw
        exact ex_look 89 (.tmp 33) (.tmp 34) true rfl _ _ _ rfl rfl (look_no _ w.heap.size lst i s _ (zero_item _) hSw.2.2.1 HL.out)
      try simp only [Act.put, gA, gS, gZ, sA, sZ, sS]
      refine tk 6 (.tuple #[.agg (itC 0 0 ⟨#[]⟩ 0 0 none 0 0 none 0 0 none 0 0 0 0 none 0 0), .bool false]) rfl (.inl ⟨by rfl, ?_⟩) ?_
      · intro w9 hSw
        try dsimp only at hSw
        go_simp
        all_goals try decide
        all_goals try assumption
        all_goals try omega
      try simp only [Act.put, gA, gS, gZ, sA, sZ, sS]
      refine tk 7 (.agg (itC 0 0 ⟨#[]⟩ 0 0 none 0 0 none 0 0 none 0 0 0 0 none 0 0)) rfl (.inl ⟨by rfl, ?_⟩) ?_
      · intro w9 hSw
        try dsimp only at hSw
        go_simp
        all_goals try decide
        all_goals try assumption
        all_goals try omega
      try simp only [Act.put, gA, gS, gZ, sA, sZ, sS]
      refine tk 8 (.bool false) rfl (.inl ⟨by rfl, ?_⟩) ?_
      · intro w9 hSw
        try dsimp only at hSw
        go_simp
        all_goals try decide
        all_goals try assumption
        all_goals try omega
      try simp only [Act.put, gA, gS, gZ, sA, sZ, sS]
      refine wpAnyH_ready (rs := [9]) (by kernel_rfl) (by simp) ?_
      refine AllReadyH.cons rfl (fun K' hK => ?_) AllReadyH.nil
      rw [if_pos (by rfl)]
      simp only [gA, gS, gZ]
      go_wp2_with fail
      refine hK.out _ _ (⟨Below.al hHeld.1 _, ext11 hHeld.2.1, hHeld.2.2.1.next (Below.al (Below.refl _ _) _), ext11 hHeld.2.2.2.1, ext11 hHeld.2.2.2.2⟩) (fun hHeld => ?_)
      clear hK K'
      try simp only [Act.put, gA, gS, gZ, sA, sZ, sS]
      refine wpAnyH_ready (rs := [10]) (by kernel_rfl) (by simp) ?_
      refine AllReadyH.cons rfl (fun K' hK => ?_) AllReadyH.nil
      rw [if_pos (by rfl)]
      simp only [gA, gS, gZ]
      refine wp_store_by 95 _ _ rfl ⟨W3.heap.size, 0, none⟩ _ rfl rfl (storeI _ _ _ 0 0 ⟨#[]⟩ 0 0 none 0 0 none 0 0 none 0 0 0 0 none 0 0 _ (at11 _ (.cells (itC 0 0 ⟨#[]⟩ 0 0 none 0 0 none 0 0 none 0 0 0 0 none 0 0) 95) _ (by simp)) rfl) ?_
      refine hK.out _ _ (⟨below_setRow hHeld.1 S3.out _, (setRow_other _ _ _ _ (by omega)).trans hHeld.2.1, hHeld.2.2.1.kp (Kp.row (S := [W3.heap.size]) (Kp.refl _ _) _ _ (.inl (by simp))) (by simp; omega), (setRow_other _ _ _ _ (by omega)).trans hHeld.2.2.2.1, (setRow_other _ _ _ _ (by omega)).trans hHeld.2.2.2.2⟩) (fun hHeld => ?_)
      clear hK K'
      try simp only [Act.put, gA, gS, gZ, sA, sZ, sS]
      refine tk 11 (.bool false) rfl (.inl ⟨by rfl, ?_⟩) ?_
      · intro w9 hSw
        try dsimp only at hSw
        go_simp
        all_goals try decide
        all_goals try assumption
        all_goals try omega
      try simp only [Act.put, gA, gS, gZ, sA, sZ, sS]
      refine wpAnyH_done (by kernel_rfl) ?_ _
      obtain ⟨W5, HW5⟩ : ∃ W5, Hid ((W3.alloc (.cells (itC 0 0 ⟨#[]⟩ 0 0 none 0 0 none 0 0 none 0 0 0 0 none 0 0) 95)).drew.setRow W3.heap.size (itC 0 0 ⟨#[]⟩ 0 0 none 0 0 none 0 0 none 0 0 0 0 none 0 0) = W5) := ⟨_, rfl⟩
      have B5 : Hid (Below wr.heap.size wr W5) := by show Below _ _ _; rw [← HW5.out]; exact hHeld.1
      have P5 : Hid (W5.heap[w.heap.size + 1]? = some (.cells #[.map (some w.heap.size), .int .i64 0] 91 (0, 0))) := by show _ = _; rw [← HW5.out]; exact hHeld.2.1
      have M5 : Hid (IsM W5 w.heap.size lst) := by show IsM _ _ _; rw [← HW5.out]; exact hHeld.2.2.1
      have E5 : Hid (W5.heap[wr.heap.size]? = some (.cells (enC i s nm t rt d ld cd l ll cl h lh ch tg gr) 52 (0, 0))) := by show _ = _; rw [← HW5.out]; exact hHeld.2.2.2.1
      have L5 : Hid (W5.heap[w2.heap.size]? = some (.cells #[.int .u16 i, .int .u8 s] 43 (0, 0))) := by show _ = _; rw [← HW5.out]; exact hHeld.2.2.2.2
      rw [show (W3.alloc _).drew.setRow W3.heap.size _ = W5 from HW5.out]
      clear hHeld HW5
      have BWR : Hid (∀ x, Kp [w.heap.size] W5 x → Below w.heap.size w x) := fun x hx => Kp.below (Below.andThen BR.out B5.out) hx (by have := BR.out.size; have := B5.out.size; omega) (by simp)
      go_wp2_with fail
      refine wp_region_held_drew (S := fun x => Kp [w.heap.size] W5 x) (by kernel_rfl) (Kp.drew (Kp.refl _ _)) (fun hHeld => ?_)
      refine tk 0 (.pointer (some ⟨w.heap.size + 1, 0, none⟩)) rfl (.inl ⟨by rfl, ?_⟩) ?_
      · intro w9 hSw
        try dsimp only at hSw
        go_simp
        all_goals try decide
        all_goals try assumption
        all_goals try omega
      try simp only [Act.put, gA, gS, gZ, sA, sZ, sS]
      refine tk 1 (.pointer (some ⟨w.heap.size + 1, 0, none⟩)) rfl (.inl ⟨by rfl, ?_⟩) ?_
      · intro w9 hSw
        try dsimp only at hSw
        go_simp
        all_goals try decide
        all_goals try assumption
        all_goals try omega
      try simp only [Act.put, gA, gS, gZ, sA, sZ, sS]
      refine tk 2 (.pointer (some ⟨w.heap.size + 1, 0, none⟩)) rfl (.inl ⟨by rfl, ?_⟩) ?_
      · intro w9 hSw
        try dsimp only at hSw
        go_simp
        all_goals try decide
        all_goals try assumption
        all_goals try omega
      try simp only [Act.put, gA, gS, gZ, sA, sZ, sS]
      refine tk 3 (.map (some w.heap.size)) rfl (.inl ⟨by rfl, ?_⟩) ?_
      · intro w9 hSw
        try dsimp only at hSw
        have c0 : w9.cell? ⟨w.heap.size + 1, 0, none⟩ = some (.map (some w.heap.size)) := by rw [cell_of_row _ _ 0 _ _ _ (hSw.at (by simp) P5.out)]; rfl
        go_simp
        all_goals try assumption
      try simp only [Act.put, gA, gS, gZ, sA, sZ, sS]
      refine tk 4 (plV i s) rfl (.inl ⟨by rfl, ?_⟩) ?_
      · intro w9 hSw
        try dsimp only at hSw
        exact ex_load11 43 (.tmp 7) rfl _ _ rfl (load_part 43 2 sizeP aggP _ (w2.heap.size) 0 [.int .u16 i, .int .u8 s] _ (hSw.at (by simp; omega) L5.out) (by simp))
      try simp only [Act.put, gA, gS, gZ, sA, sZ, sS]
      refine tk 5 (.agg (enC i s nm t rt d ld cd l ll cl h lh ch tg gr)) rfl (.inl ⟨by rfl, ?_⟩) ?_
      · intro w9 hSw
        try dsimp only at hSw
        exact ex_load11 52 (.tmp 6) rfl _ _ rfl (loadE _ _ i s nm t rt d ld cd l ll cl h lh ch tg gr _ (hSw.at (by simp; omega) E5.out))
      try simp only [Act.put, gA, gS, gZ, sA, sZ, sS]
      refine tk 7 (.agg (enC i s nm t rt d ld cd l ll cl h lh ch tg gr)) rfl (.inl ⟨by rfl, ?_⟩) ?_
      · intro w9 hSw
        try dsimp only at hSw
        exact ex_load11 52 (.tmp 6) rfl _ _ rfl (loadE _ _ i s nm t rt d ld cd l ll cl h lh ch tg gr _ (hSw.at (by simp; omega) E5.out))
      try simp only [Act.put, gA, gS, gZ, sA, sZ, sS]
      refine wpAnyH_ready (rs := [6]) (by kernel_rfl) (by simp) ?_
      refine AllReadyH.cons rfl (fun K' hK => ?_) AllReadyH.nil
      rw [if_pos (by rfl)]
      simp only [gA, gS, gZ]
      go_wp2_with fail
      refine (HCO.out _ (BWR.out _ hHeld)).mono ?_
      rintro e w6 ⟨a1, c1, a2, c2, a3, c3, rfl, t1, t2, t3, hb6⟩
      have T1 : Hid (Told _ w6 a1 ld c1 zd) := t1
      have T2 : Hid (Told _ w6 a2 ll c2 zl) := t2
      have T3 : Hid (Told _ w6 a3 lh c3 zh) := t3
      have N6 : Hid (Below W5.drew.heap.size W5.drew w6) := hb6
      clear t1 t2 t3
      try go_wp2_with fail
      refine hK.out _ _ (hHeld.trans (Kp.of hb6)) (fun hHeld => ?_)
      clear hK K'
      try simp only [Act.put, gA, gS, gZ, sA, sZ, sS]
      refine wpAnyH_ready (rs := [8]) (by kernel_rfl) (by simp) ?_
      refine AllReadyH.cons rfl (fun K' hK => ?_) AllReadyH.nil
      rw [if_pos (by rfl)]
      simp only [gA, gS, gZ]
      go_wp2_with fail
      refine (HFI.out _ (BWR.out _ hHeld)).mono ?_
      rintro e w7 ⟨af, nf, cf, rfl, hqf, hb7⟩
      have QF : Hid (SlOk w7 af nf cf (firstL t zd)) := hqf
      have N7 : Hid (Below w6.heap.size w6 w7) := hb7
      clear hqf
      try go_wp2_with fail
      refine hK.out _ _ (hHeld.trans (Kp.of hb7)) (fun hHeld => ?_)
      clear hK K'
      try simp only [Act.put, gA, gS, gZ, sA, sZ, sS]
      refine wpAnyH_ready (rs := [9]) (by kernel_rfl) (by simp) ?_
      refine AllReadyH.cons rfl (fun K' hK => ?_) AllReadyH.nil
      rw [if_pos (by rfl)]
      simp only [gA, gS, gZ]
      go_wp2_with fail
      refine (clone8_any af nf cf _ _ QF.out.row (NF QF.out)).mono ?_
      rintro e w8 ⟨⟨av, cv, rfl, htv⟩, hb8⟩
      have TV : Hid (Told w7 w8 av nf cv (firstL t zd)) := htv
      have N8 : Hid (Below w7.heap.size w7 w8) := hb8
      clear htv
      try go_wp2_with fail
      refine hK.out _ _ (hHeld.trans (Kp.of hb8)) (fun hHeld => ?_)
      clear hK K'
      try simp only [Act.put, gA, gS, gZ, sA, sZ, sS]
      refine tk 10 (.agg (itC i s nm t rt a1 ld c1 a2 ll c2 a3 lh c3 tg gr av nf cv)) rfl (.inl ⟨by rfl, ?_⟩) ?_
      · intro w9 hSw
        try dsimp only at hSw
        go_simp
        all_goals try decide
        all_goals try assumption
        all_goals try omega
      try simp only [Act.put, gA, gS, gZ, sA, sZ, sS]
      refine wpAnyH_ready (rs := [11]) (by kernel_rfl) (by simp) ?_
      refine AllReadyH.cons rfl (fun K' hK => ?_) AllReadyH.nil
      rw [if_pos (by rfl)]
      simp only [gA, gS, gZ]
      have M8 : Hid (IsM w8 w.heap.size lst) := (((show IsM W5.drew w.heap.size lst from M5.out).next N6.out).next N7.out).next N8.out
      obtain ⟨w9, hrun, hM9, hK9⟩ := upd_run w8 w.heap.size lst i s (.agg (itC i s nm t rt a1 ld c1 a2 ll c2 a3 lh c3 tg gr av nf cv)) M8.out
      have M9 : Hid (IsM w9 w.heap.size (putP lst i s (.agg (itC i s nm t rt a1 ld c1 a2 ll c2 a3 lh c3 tg gr av nf cv)))) := hM9
      have K9 : Hid (Kp [w.heap.size] w8 w9) := hK9
      have K59 : Hid (Kp [w.heap.size] W5 w9) := hHeld.trans hK9
      refine wp_upd_by 89 _ _ _ rfl _ _ _ rfl rfl rfl hrun ?_
      refine hK.out _ _ (K59.out) (fun hHeld => ?_)
      clear hK K'
      try simp only [Act.put, gA, gS, gZ, sA, sZ, sS]
      refine wpAnyH_done (by kernel_rfl) ?_ _
      have BU9 : Hid (Built w9 (w.heap.size + 2) (es.take (k + 1)) (lst ++ [(i, s, .agg (itC i s nm t rt a1 ld c1 a2 ll c2 a3 lh c3 tg gr av nf cv))])) := by
        show Built _ _ _ _
        rw [HTK.out]
        have s5 : w.heap.size + 2 ≤ W5.heap.size := by have := B5.out.size; omega
        have s6 : w.heap.size + 2 ≤ w6.heap.size := Nat.le_trans s5 N6.out.size
        have s7 : w.heap.size + 2 ≤ w7.heap.size := Nat.le_trans s6 N7.out.size
        have hS : ∀ {x : World}, ∀ b ∈ [w.heap.size], b < w.heap.size + 2 ∨ x.heap.size ≤ b := fun b hb => by simp at hb; omega
        have n69 : Kp [w.heap.size] w6 w9 := ((Kp.of N7.out).trans (Kp.of N8.out)).trans K9.out
        refine (BUR.out.kp ((Kp.of B5.out).trans K59.out) hS).snoc _ _ ⟨a1, c1, a2, c2, a3, c3, av, nf, cv, rfl, ?_, ?_, ?_, ?_⟩
        · exact (T1.out.kept s5).kp n69 hS
        · exact (T2.out.kept s5).kp n69 hS
        · exact (T3.out.kept s5).kp n69 hS
        · exact (TV.out.kept s7).kp K9.out hS
      have P9 : Hid (w9.heap[w.heap.size + 1]? = some (.cells #[.map (some w.heap.size), .int .i64 0] 91 (0, 0))) := K59.out.at (by simp) P5.out
      have M9' : Hid (IsM w9 w.heap.size (lst ++ [(i, s, .agg (itC i s nm t rt a1 ld c1 a2 ll c2 a3 lh c3 tg gr av nf cv))])) := by show IsM _ _ _; rw [← look_put HL.out]; exact M9.out
      have B9 : Hid (Below w.heap.size w w9) := BWR.out _ K59.out
      clear hHeld
      go_wp2_with fail
      first
        | exact ⟨⟨k + 1, by have := HK.out; omega, by go_num, B9.out, P9.out, _, M9'.out, BU9.out⟩, by have := HK.out; simp [intOf]; omega⟩
        | (refine ⟨?_, ?_⟩
           · (repeat apply Exists.intro)
             refine ⟨?_, rfl⟩
             exact ⟨k + 1, by have := HK.out; omega, by go_num, B9.out, P9.out, _, M9'.out, BU9.out⟩
           · have := HK.out; simp [intOf]; omega)
    · obtain rfl : k = N := by omega
      go_wp2_with fail
      go_ret2
      refine ⟨lst, rfl, BR.out, PR.out, MR.out, ?_⟩
      have := BUR.out
      rwa [List.take_of_length_le (by have := HN.out; omega)] at this
#print axioms new_at
end Go.Proofs.YtajllkkbgpijiaaGreatDoor
