/-
  New: of any entries that came in.
-/
import Derived.Test.YtpjmebaipnpegaaDoorIf
import Derived.Test.YtpjmebaipnpegaaDoorTk9
namespace Go.Proofs.YtpjmebaipnpegaaDoor
open Go.RowKit

/-- An entry that came in, whatever it is. -/
structure EmIn (w : World) (e : Em) : Prop where
  rd : SlOk w e.d e.ld e.cd e.zd
  rl : SlOk w e.l e.ll e.cl e.zl
  rh : SlOk w e.h e.lh e.ch e.zh
  b1 : e.ld ≤ 16777216
  b2 : e.ll ≤ 16777216
  b3 : e.lh ≤ 16777216
def EmAtO (w : World) (eb off k : Nat) (e : Em) : Prop := w.cell? ⟨eb, off + k * 10, none⟩ = some (.int .u16 e.i) ∧ w.cell? ⟨eb, off + k * 10 + 1, none⟩ = some (.int .u8 e.s) ∧ w.cell? ⟨eb, off + k * 10 + 2, none⟩ = some (.string e.nm) ∧ w.cell? ⟨eb, off + k * 10 + 3, none⟩ = some (.int .u8 e.t) ∧ w.cell? ⟨eb, off + k * 10 + 4, none⟩ = some (.int .u8 e.rt) ∧ w.cell? ⟨eb, off + k * 10 + 5, none⟩ = some (.slice e.d e.ld e.cd) ∧ w.cell? ⟨eb, off + k * 10 + 6, none⟩ = some (.slice e.l e.ll e.cl) ∧ w.cell? ⟨eb, off + k * 10 + 7, none⟩ = some (.slice e.h e.lh e.ch) ∧ w.cell? ⟨eb, off + k * 10 + 8, none⟩ = some (.int .u8 e.tg) ∧ w.cell? ⟨eb, off + k * 10 + 9, none⟩ = some (.int .u8 e.gr)
/-- May it be? -/
def mayE (e : Em) : Bool := mayB e.nm e.t e.rt e.gr e.zd e.zl e.zh
/-- The code that New tells of entries, those ahead given. -/
def newG : List Em → List Em → Int
  | _, [] => 0
  | a, e :: r => if mayE e = false then 80 else if (a.any fun x => e.i == x.i && e.s == x.s) = true then 6 else newG (a ++ [e]) r
def newC (es : List Em) : Int := if 1024 < es.length then 3 else newG [] es
theorem newG_step (es : List Em) (k : Nat) (e : Em) (h : es[k]? = some e) : newG (es.take k) (es.drop k) = if mayE e = false then 80 else if ((es.take k).any fun x => e.i == x.i && e.s == x.s) = true then 6 else newG (es.take (k + 1)) (es.drop (k + 1)) := by
  obtain ⟨hk, he⟩ := List.getElem?_eq_some_iff.1 h
  rw [List.drop_eq_getElem_cons hk, List.take_succ_eq_append_getElem hk, he]
  rfl
theorem any_no {es : List Em} {i s : Int} (h : (es.any fun x => i == x.i && s == x.s) = false) : ∀ e ∈ es, ¬ (i = e.i ∧ s = e.s) := fun e he => by
  have := List.any_eq_false.1 h e he
  simpa using this
theorem lookP_none : ∀ (lst : Mp) (i s : Int), lookP lst i s = none → ∀ x ∈ lst, ¬ (i = x.1 ∧ s = x.2.1)
  | [], _, _, _, x, hx => by cases hx
  | y :: l, i, s, h, x, hx => by
    simp only [lookP] at h
    split at h
    · cases h
    · rename_i hn
      rcases List.mem_cons.1 hx with rfl | hx
      · simpa using hn
      · exact lookP_none l i s h x hx
theorem lookP_mem : ∀ (lst : Mp) (i s : Int) (v : Value), lookP lst i s = some v → (i, s, v) ∈ lst
  | [], _, _, _, h => by cases h
  | y :: l, i, s, v, h => by
    simp only [lookP] at h
    split at h
    · rename_i hn
      cases h
      obtain ⟨rfl, rfl⟩ : i = y.1 ∧ s = y.2.1 := by simpa using hn
      exact List.mem_cons_self
    · exact List.mem_cons_of_mem _ (lookP_mem l i s v h)
theorem Built.found {w : World} {lo : Nat} {es : List Em} {lst : Mp} (h : Built w lo es lst) (i s : Int) (hu : (es.any fun x => i == x.i && s == x.s) = true) : ∃ i7 s7 nm7 t7 rt7 d7 ld7 cd7 l7 ll7 cl7 h7 lh7 ch7 tg7 gr7 v7 lv7 cv7, lookP lst i s = some (.agg (itC i7 s7 nm7 t7 rt7 d7 ld7 cd7 l7 ll7 cl7 h7 lh7 ch7 tg7 gr7 v7 lv7 cv7)) := by
  cases hq : lookP lst i s with
  | none =>
    exfalso
    obtain ⟨e, he, hm⟩ := List.any_eq_true.1 hu
    obtain ⟨k, hk, hk2⟩ := List.getElem_of_mem he
    obtain ⟨_, _, _, _, _, _, _, _, _, g, _⟩ := h.2 k e (by rw [List.getElem?_eq_getElem hk, hk2])
    exact lookP_none lst i s hq _ (List.mem_of_getElem? g) (by simpa using hm)
  | some v =>
    have hm := lookP_mem lst i s v hq
    obtain ⟨k, hk, hk2⟩ := List.getElem_of_mem hm
    have hk' : k < es.length := by have := h.1; omega
    obtain ⟨_, _, _, _, _, _, _, _, _, g, _⟩ := h.2 k es[k] (List.getElem?_eq_getElem hk')
    rw [List.getElem?_eq_getElem hk, hk2] at g
    cases g
    exact ⟨_, _, _, _, _, _, _, _, _, _, _, _, _, _, _, _, _, _, _, rfl⟩
/-- A dictionary was made, or the code tells why not. -/
def NewAny (es : List Em) (w : World) (r : Ending) (w' : World) : Prop :=
  (newC es = 0 ∧ NewPost es w r w') ∨ (newC es ≠ 0 ∧ r = .returned (.tuple #[.pointer none, .int .i64 (newC es)]) ∧ Below w.heap.size w w')

set_option linter.unusedSimpArgs false in
set_option maxHeartbeats 4000000 in
set_option maxRecDepth 100000 in
theorem new_any (ad : Option Addr) (eb off cap : Nat) (es : List Em) (w : World) (had : 0 < es.length → ad = some ⟨eb, off, none⟩) (hok : ∀ e ∈ es, EmIn w e) (hat : ∀ (k : Nat) (e : Em), es[k]? = some e → EmAtO w eb off k e) (hT : Ty.Tab64 w) :
    Calls Tryd.prog 5 #[.slice ad es.length cap] w (NewAny es w) := by
  have HAD : Hid (0 < es.length → ad = some ⟨eb, off, none⟩) := had
  obtain ⟨N, HN⟩ : ∃ N, Hid (es.length = N) := ⟨_, rfl⟩
  have HOK : Hid (∀ e ∈ es, EmIn w e) := hok
  have HAT : Hid (∀ (k : Nat) (e : Em), es[k]? = some e → EmAtO w eb off k e) := hat
  have HT : Hid (Ty.Tab64 w) := hT
  have hmm := makeMap_run
  clear hok hat hT had
  rw [HN.out]
  by_cases hbig : 1024 < N
  · have hN' : (1024 : Int) < (N : Int) := by omega
    have C3 : Hid (newC es = 3) := by
      show newC es = 3
      unfold newC
      rw [HN.out, if_pos hbig]
    go_enter Tryd.func5, Tryd.ntmps5
    go_wp2_with fail
    go_ret2
    exact Or.inr ⟨by rw [C3.out]; decide, by rw [C3.out]; rfl, (by repeat (first | exact Below.refl _ _ | apply Below.drew | apply Below.al))⟩
  have hN' : ¬ (1024 : Int) < (N : Int) := by omega
  have HC0 : Hid (newC es = newG (es.take 0) (es.drop 0)) := by
    show newC es = _
    unfold newC
    rw [HN.out, if_neg hbig]
    rfl
  go_enter Tryd.func5, Tryd.ntmps5
  go_wp2_with fail
  clear hmm
  go_loopw [20] (fun iv wr => ∃ k : Nat, k ≤ N ∧ iv = .int .i64 (k : Int) ∧ Hid (newC es = newG (es.take k) (es.drop k)) ∧ Hid (Below w.heap.size w wr ∧ wr.heap[w.heap.size + 1]? = some (.cells #[.map (some w.heap.size), .int .i64 0] 50 (0, 0)) ∧ ∃ lst, IsM wr w.heap.size lst ∧ Built wr (w.heap.size + 2) (es.take k) lst)) (fun iv _ => N - (intOf iv).toNat)
  case atStart => exact ⟨0, Nat.zero_le _, rfl, HC0, (by repeat (first | exact Below.refl _ _ | apply Below.drew | apply Below.al)), at11 _ _ _ (by simp), [], (isM_new w).next (by repeat (first | exact Below.refl _ _ | apply Below.drew | apply Below.al)), by simp, fun k e he => by simp at he⟩
  case round =>
    obtain ⟨k, hk, rfl, HG, HI⟩ := hrel
    obtain ⟨hB0, hP0, lst, hM0, hBu0⟩ := HI.out
    have BR : Hid (Below w.heap.size w wr) := hB0
    have PR : Hid (wr.heap[w.heap.size + 1]? = some (.cells #[.map (some w.heap.size), .int .i64 0] 50 (0, 0))) := hP0
    have MR : Hid (IsM wr w.heap.size lst) := hM0
    have BUR : Hid (Built wr (w.heap.size + 2) (es.take k) lst) := hBu0
    clear hB0 hP0 hM0 hBu0 HI
    have lpr : w.heap.size + 1 < wr.heap.size := lt_of_heap PR.out
    by_cases hlt : k < N
    · have hlt' : (k : Int) < (N : Int) := by omega
      have HK : Hid (k < N) := hlt
      have hk9 : k < es.length := by have := HN.out; omega
      obtain ⟨e, hE⟩ : ∃ e, es[k]? = some e := ⟨es[k], List.getElem?_eq_getElem hk9⟩
      have HE : Hid (es[k]? = some e) := hE
      have hin : e ∈ es := List.mem_of_getElem? hE
      have hOK := HOK.out e hin
      have hAT := HAT.out k e hE
      obtain rfl := HAD.out (by omega)
      have HGZ : Hid (newC es = if mayE e = false then 80 else if ((es.take k).any fun x => e.i == x.i && e.s == x.s) = true then 6 else newG (es.take (k + 1)) (es.drop (k + 1))) := HG.out.trans (newG_step es k e hE)
      obtain ⟨u, HU⟩ : ∃ u, Hid (((es.take k).any fun x => e.i == x.i && e.s == x.s) = u) := ⟨_, rfl⟩
      have HLO : Hid (if u = true then ∃ i7 s7 nm7 t7 rt7 d7 ld7 cd7 l7 ll7 cl7 h7 lh7 ch7 tg7 gr7 v7 lv7 cv7, lookP lst e.i e.s = some (.agg (itC i7 s7 nm7 t7 rt7 d7 ld7 cd7 l7 ll7 cl7 h7 lh7 ch7 tg7 gr7 v7 lv7 cv7)) else lookP lst e.i e.s = none) := by
        show if u = true then _ else _
        cases u
        · exact BUR.out.key _ _ (any_no HU.out)
        · exact BUR.out.found _ _ HU.out
      have HTK : Hid (es.take (k + 1) = es.take k ++ [e]) := by show _ = _; rw [List.take_succ_eq_append_getElem hk9]; congr; exact (Option.some.inj ((List.getElem?_eq_getElem hk9).symm.trans hE))
      obtain ⟨i, s, nm, t, rt, d, ld, cd, l, ll, cl, h, lh, ch, tg, gr, zd, zl, zh⟩ := e
      dsimp only [EmAtO] at hAT
      obtain ⟨rd, rl, rh, b1, b2, b3⟩ := hOK
      dsimp only at HLO rd rl rh b1 b2 b3
      obtain ⟨q, HQ⟩ : ∃ q, Hid (mayB nm t rt gr zd zl zh = q) := ⟨_, rfl⟩
      have HGS : Hid (newC es = if q = false then 80 else if u = true then 6 else newG (es.take (k + 1)) (es.drop (k + 1))) := by
        show newC es = _
        rw [← HQ.out, ← HU.out]
        exact HGZ.out
      clear HGZ HU
      have HCO : Hid (∀ W, Below w.heap.size w W → Calls Tryd.prog 15 #[.agg (enC i s nm t rt d ld cd l ll cl h lh ch tg gr)] W (CopyPost i s nm t rt ld ll lh tg gr zd zl zh W)) := fun W hb => copyOf_any i s nm t rt d ld cd l ll cl h lh ch tg gr zd zl zh W (rd.next hb) (rl.next hb) (rh.next hb) b1 b2 b3
      have HFI : Hid (∀ W, Below w.heap.size w W → Calls Tryd.prog 17 #[.agg (enC i s nm t rt d ld cd l ll cl h lh ch tg gr)] W fun e w' => ∃ a n c, e = .returned (.slice a n c) ∧ SlOk w' a n c (firstL t zd) ∧ Below W.heap.size W w') := fun W hb => atFirst_any i s nm t rt d ld cd l ll cl h lh ch tg gr zd W (rd.next hb)
      have HMB : Hid (∀ W, Below w.heap.size w W → Calls Tryd.prog 13 #[.agg (enC i s nm t rt d ld cd l ll cl h lh ch tg gr)] W fun e w' => e = .returned (.bool q) ∧ Below W.heap.size W w') := fun W hb => by rw [← HQ.out]; exact mayBe_any i s nm t rt d ld cd l ll cl h lh ch tg gr zd zl zh W (rd.next hb) (rl.next hb) (rh.next hb) (tab_next HT.out hb)
      have hzd : zd.length ≤ 16777216 := by rw [rd.row.size]; exact b1
      have NF := fun {W : World} {a : Option Addr} {n c : Nat} (hq : SlOk W a n c (firstL t zd)) => NF hq hzd
      obtain ⟨m0, m1, m2, m3, m4, m5, m6, m7, m8, m9⟩ := hAT
      have g0 : wr.cell? ⟨eb, off + k * 10, none⟩ = some (.int .u16 i) := (BR.out.cell (block_lt_of_cell m0)).trans m0
      have g1 : wr.cell? ⟨eb, off + k * 10 + 1, none⟩ = some (.int .u8 s) := (BR.out.cell (block_lt_of_cell m1)).trans m1
      have g2 : wr.cell? ⟨eb, off + k * 10 + 2, none⟩ = some (.string nm) := (BR.out.cell (block_lt_of_cell m2)).trans m2
      have g3 : wr.cell? ⟨eb, off + k * 10 + 3, none⟩ = some (.int .u8 t) := (BR.out.cell (block_lt_of_cell m3)).trans m3
      have g4 : wr.cell? ⟨eb, off + k * 10 + 4, none⟩ = some (.int .u8 rt) := (BR.out.cell (block_lt_of_cell m4)).trans m4
      have g5 : wr.cell? ⟨eb, off + k * 10 + 5, none⟩ = some (.slice d ld cd) := (BR.out.cell (block_lt_of_cell m5)).trans m5
      have g6 : wr.cell? ⟨eb, off + k * 10 + 6, none⟩ = some (.slice l ll cl) := (BR.out.cell (block_lt_of_cell m6)).trans m6
      have g7 : wr.cell? ⟨eb, off + k * 10 + 7, none⟩ = some (.slice h lh ch) := (BR.out.cell (block_lt_of_cell m7)).trans m7
      have g8 : wr.cell? ⟨eb, off + k * 10 + 8, none⟩ = some (.int .u8 tg) := (BR.out.cell (block_lt_of_cell m8)).trans m8
      have g9 : wr.cell? ⟨eb, off + k * 10 + 9, none⟩ = some (.int .u8 gr) := (BR.out.cell (block_lt_of_cell m9)).trans m9
      clear rd rl rh b1 b2 b3 hE hin hlt hk9 HQ HG m0 m1 m2 m3 m4 m5 m6 m7 m8 m9
      go_wp2_with (refine wpList_load_by rfl 44 _ rfl ⟨wr.heap.size, 0, none⟩ _ rfl (loadE _ _ i s nm t rt d ld cd l ll cl h lh ch tg gr _ (at11 _ _ _ rfl)) ?_)
      clear g0 g1 g2 g3 g4 g5 g6 g7 g8 g9
      refine (HMB.out _ (Below.al BR.out _)).mono ?_
      rintro r w1 ⟨rfl, hb⟩
      have B1 : Hid (Below wr.heap.size wr w1) := Below.andThen (Below.al (Below.refl _ _) _) hb
      have E1 : Hid (w1.heap[wr.heap.size]? = some (.cells (enC i s nm t rt d ld cd l ll cl h lh ch tg gr) 44 (0, 0))) := blk11 hb (at11 _ _ _ rfl)
      have le1 := lt_of_heap E1.out
      clear hb
      cases q
      case false =>
        have C80 : Hid (newC es = 80) := HGS.out
        go_wp2_with fail
        go_ret2
        exact Or.inr ⟨by rw [C80.out]; decide, by rw [C80.out]; rfl, Below.andThen BR.out B1.out⟩
      go_wp2_with (refine wpList_load_by rfl 44 _ rfl ⟨wr.heap.size, 0, none⟩ _ rfl (loadE _ _ i s nm t rt d ld cd l ll cl h lh ch tg gr _ E1.out) ?_)
      refine (placeOf_any i s nm t rt d ld cd l ll cl h lh ch tg gr _).mono ?_
      rintro r w2 ⟨rfl, hb⟩
      have B2 : Hid (Below wr.heap.size wr w2) := Below.andThen B1.out hb
      have E2 : Hid (w2.heap[wr.heap.size]? = some (.cells (enC i s nm t rt d ld cd l ll cl h lh ch tg gr) 44 (0, 0))) := blk11 hb E1.out
      have le2 := lt_of_heap E2.out
      clear hb
      go_wp2_with fail
      obtain ⟨W3, HW3⟩ : ∃ W3, Hid (w2.alloc (.cells #[.int .u16 i, .int .u8 s] 33) = W3) := ⟨_, rfl⟩
      have B3 : Hid (Below wr.heap.size wr W3) := by show Below _ _ _; rw [← HW3.out]; exact Below.al B2.out _
      have E3 : Hid (W3.heap[wr.heap.size]? = some (.cells (enC i s nm t rt d ld cd l ll cl h lh ch tg gr) 44 (0, 0))) := by show _ = _; rw [← HW3.out]; exact ext11 E2.out
      have L3 : Hid (W3.heap[w2.heap.size]? = some (.cells #[.int .u16 i, .int .u8 s] 33 (0, 0))) := by show _ = _; rw [← HW3.out]; exact at11 _ _ _ rfl
      have P3 : Hid (W3.heap[w.heap.size + 1]? = some (.cells #[.map (some w.heap.size), .int .i64 0] 50 (0, 0))) := blk11 B3.out PR.out
      have M3 : Hid (IsM W3 w.heap.size lst) := MR.out.next B3.out
      have S3 : Hid (wr.heap.size ≤ W3.heap.size) := B3.out.size
      have ll3 := lt_of_heap L3.out
      rw [HW3.out]
      cases u
      case true =>
        have C6 : Hid (newC es = 6) := HGS.out
        obtain ⟨i7, s7, nm7, t7, rt7, d7, ld7, cd7, l7, ll7, cl7, h7, lh7, ch7, tg7, gr7, v7, lv7, cv7, hlf⟩ := HLO.out
        have HLF : Hid (lookP lst i s = some (.agg (itC i7 s7 nm7 t7 rt7 d7 ld7 cd7 l7 ll7 cl7 h7 lh7 ch7 tg7 gr7 v7 lv7 cv7))) := hlf
        clear hlf
        refine wp_region_held_drew (S := fun x => Below wr.heap.size wr x ∧ x.heap[w.heap.size + 1]? = some (.cells #[.map (some w.heap.size), .int .i64 0] 50 (0, 0)) ∧ IsM x w.heap.size lst ∧ x.heap[wr.heap.size]? = some (.cells (enC i s nm t rt d ld cd l ll cl h lh ch tg gr) 44 (0, 0)) ∧ x.heap[w2.heap.size]? = some (.cells #[.int .u16 i, .int .u8 s] 33 (0, 0))) (by kernel_rfl) (⟨Below.drew B3.out, P3.out, M3.out, E3.out, L3.out⟩) (fun hHeld => ?_)
        refine tk 0 (.pointer (some ⟨w.heap.size + 1, 0, none⟩)) rfl (.inl ⟨by rfl, ?_⟩) ?_
        · intro w9 hSw
          try dsimp only at hSw
          go_simp
          all_goals try decide
          all_goals try assumption
          all_goals try omega
        try simp only [Act.put, gA, gS, gZ, sA, sZ, sS]
        refine tk 1 (.pointer (some ⟨w.heap.size + 1, 0, none⟩)) rfl (.inl ⟨by rfl, ?_⟩) ?_
        · intro w9 hSw
          try dsimp only at hSw
          go_simp
          all_goals try decide
          all_goals try assumption
          all_goals try omega
        try simp only [Act.put, gA, gS, gZ, sA, sZ, sS]
        refine tk 2 (.pointer (some ⟨w.heap.size + 1, 0, none⟩)) rfl (.inl ⟨by rfl, ?_⟩) ?_
        · intro w9 hSw
          try dsimp only at hSw
          go_simp
          all_goals try decide
          all_goals try assumption
          all_goals try omega
        try simp only [Act.put, gA, gS, gZ, sA, sZ, sS]
        refine tk 3 (.map (some w.heap.size)) rfl (.inl ⟨by rfl, ?_⟩) ?_
        · intro w9 hSw
          try dsimp only at hSw
          have c0 : w9.cell? ⟨w.heap.size + 1, 0, none⟩ = some (.map (some w.heap.size)) := by rw [cell_of_row _ _ 0 _ _ _ hSw.2.1]; rfl
          go_simp
          all_goals try assumption
        try simp only [Act.put, gA, gS, gZ, sA, sZ, sS]
        refine tk 4 (plV i s) rfl (.inl ⟨by rfl, ?_⟩) ?_
        · intro w9 hSw
          try dsimp only at hSw
          exact ex_load11 33 (.tmp 7) rfl _ _ rfl (load_part 33 2 sizeP aggP _ (w2.heap.size) 0 [.int .u16 i, .int .u8 s] _ hSw.2.2.2.2 (by simp))
        try simp only [Act.put, gA, gS, gZ, sA, sZ, sS]
        refine tk 5 (.tuple #[.agg (itC i7 s7 nm7 t7 rt7 d7 ld7 cd7 l7 ll7 cl7 h7 lh7 ch7 tg7 gr7 v7 lv7 cv7), .bool true]) rfl (.inl ⟨by rfl, ?_⟩) ?_
        · intro w9 hSw
          try dsimp only at hSw
          exact ex_look 48 (.tmp 33) (.tmp 34) true rfl _ _ _ rfl rfl (look_ok _ w.heap.size lst i s _ hSw.2.2.1 HLF.out)
        try simp only [Act.put, gA, gS, gZ, sA, sZ, sS]
        refine tk 6 (.tuple #[.agg (itC i7 s7 nm7 t7 rt7 d7 ld7 cd7 l7 ll7 cl7 h7 lh7 ch7 tg7 gr7 v7 lv7 cv7), .bool true]) rfl (.inl ⟨by rfl, ?_⟩) ?_
        · intro w9 hSw
          try dsimp only at hSw
          go_simp
          all_goals try decide
          all_goals try assumption
          all_goals try omega
        try simp only [Act.put, gA, gS, gZ, sA, sZ, sS]
        refine tk 7 (.agg (itC i7 s7 nm7 t7 rt7 d7 ld7 cd7 l7 ll7 cl7 h7 lh7 ch7 tg7 gr7 v7 lv7 cv7)) rfl (.inl ⟨by rfl, ?_⟩) ?_
        · intro w9 hSw
          try dsimp only at hSw
          go_simp
          all_goals try decide
          all_goals try assumption
          all_goals try omega
        try simp only [Act.put, gA, gS, gZ, sA, sZ, sS]
        refine tk 8 (.bool true) rfl (.inl ⟨by rfl, ?_⟩) ?_
        · intro w9 hSw
          try dsimp only at hSw
          go_simp
          all_goals try decide
          all_goals try assumption
          all_goals try omega
        try simp only [Act.put, gA, gS, gZ, sA, sZ, sS]
        refine wpAnyH_ready (rs := [9]) (by kernel_rfl) (by simp) ?_
        refine AllReadyH.cons rfl (fun K' hK => ?_) AllReadyH.nil
        rw [if_pos (by rfl)]
        simp only [gA, gS, gZ]
        go_wp2_with fail
        refine hK.out _ _ (⟨Below.al hHeld.1 _, ext11 hHeld.2.1, hHeld.2.2.1.next (Below.al (Below.refl _ _) _), ext11 hHeld.2.2.2.1, ext11 hHeld.2.2.2.2⟩) (fun hHeld => ?_)
        clear hK K'
        try simp only [Act.put, gA, gS, gZ, sA, sZ, sS]
        refine wpAnyH_ready (rs := [10]) (by kernel_rfl) (by simp) ?_
        refine AllReadyH.cons rfl (fun K' hK => ?_) AllReadyH.nil
        rw [if_pos (by rfl)]
        simp only [gA, gS, gZ]
        refine wp_store_by 54 _ _ rfl ⟨W3.heap.size, 0, none⟩ _ rfl rfl (storeI _ _ _ i7 s7 nm7 t7 rt7 d7 ld7 cd7 l7 ll7 cl7 h7 lh7 ch7 tg7 gr7 v7 lv7 cv7 _ (at11 _ (.cells (itC 0 0 ⟨#[]⟩ 0 0 none 0 0 none 0 0 none 0 0 0 0 none 0 0) 54) _ (by simp)) rfl) ?_
        refine hK.out _ _ (⟨below_setRow hHeld.1 S3.out _, (setRow_other _ _ _ _ (by omega)).trans hHeld.2.1, hHeld.2.2.1.kp (Kp.row (S := [W3.heap.size]) (Kp.refl _ _) _ _ (.inl (by simp))) (by simp; omega), (setRow_other _ _ _ _ (by omega)).trans hHeld.2.2.2.1, (setRow_other _ _ _ _ (by omega)).trans hHeld.2.2.2.2⟩) (fun hHeld => ?_)
        clear hK K'
        try simp only [Act.put, gA, gS, gZ, sA, sZ, sS]
        refine tk 11 (.bool true) rfl (.inl ⟨by rfl, ?_⟩) ?_
        · intro w9 hSw
          try dsimp only at hSw
          go_simp
          all_goals try decide
          all_goals try assumption
          all_goals try omega
        try simp only [Act.put, gA, gS, gZ, sA, sZ, sS]
        refine wpAnyH_done (by kernel_rfl) ?_ _
        go_wp2_with fail
        go_ret2
        exact Or.inr ⟨by rw [C6.out]; decide, by rw [C6.out]; rfl, Below.andThen BR.out hHeld.1⟩
      have HL : Hid (lookP lst i s = none) := HLO.out
      have HG9 : Hid (newC es = newG (es.take (k + 1)) (es.drop (k + 1))) := HGS.out
      refine wp_region_held_drew (S := fun x => Below wr.heap.size wr x ∧ x.heap[w.heap.size + 1]? = some (.cells #[.map (some w.heap.size), .int .i64 0] 50 (0, 0)) ∧ IsM x w.heap.size lst ∧ x.heap[wr.heap.size]? = some (.cells (enC i s nm t rt d ld cd l ll cl h lh ch tg gr) 44 (0, 0)) ∧ x.heap[w2.heap.size]? = some (.cells #[.int .u16 i, .int .u8 s] 33 (0, 0))) (by kernel_rfl) (⟨Below.drew B3.out, P3.out, M3.out, E3.out, L3.out⟩) (fun hHeld => ?_)
      refine tk 0 (.pointer (some ⟨w.heap.size + 1, 0, none⟩)) rfl (.inl ⟨by rfl, ?_⟩) ?_
      · intro w9 hSw
        try dsimp only at hSw
        go_simp
        all_goals try decide
        all_goals try assumption
        all_goals try omega
      try simp only [Act.put, gA, gS, gZ, sA, sZ, sS]
      refine tk 1 (.pointer (some ⟨w.heap.size + 1, 0, none⟩)) rfl (.inl ⟨by rfl, ?_⟩) ?_
      · intro w9 hSw
        try dsimp only at hSw
        go_simp
        all_goals try decide
        all_goals try assumption
        all_goals try omega
      try simp only [Act.put, gA, gS, gZ, sA, sZ, sS]
      refine tk 2 (.pointer (some ⟨w.heap.size + 1, 0, none⟩)) rfl (.inl ⟨by rfl, ?_⟩) ?_
      · intro w9 hSw
        try dsimp only at hSw
        go_simp
        all_goals try decide
        all_goals try assumption
        all_goals try omega
      try simp only [Act.put, gA, gS, gZ, sA, sZ, sS]
      refine tk 3 (.map (some w.heap.size)) rfl (.inl ⟨by rfl, ?_⟩) ?_
      · intro w9 hSw
        try dsimp only at hSw
        have c0 : w9.cell? ⟨w.heap.size + 1, 0, none⟩ = some (.map (some w.heap.size)) := by rw [cell_of_row _ _ 0 _ _ _ hSw.2.1]; rfl
        go_simp
        all_goals try assumption
      try simp only [Act.put, gA, gS, gZ, sA, sZ, sS]
      refine tk 4 (plV i s) rfl (.inl ⟨by rfl, ?_⟩) ?_
      · intro w9 hSw
        try dsimp only at hSw
        exact ex_load11 33 (.tmp 7) rfl _ _ rfl (load_part 33 2 sizeP aggP _ (w2.heap.size) 0 [.int .u16 i, .int .u8 s] _ hSw.2.2.2.2 (by simp))
      try simp only [Act.put, gA, gS, gZ, sA, sZ, sS]
      refine tk 5 (.tuple #[.agg (itC 0 0 ⟨#[]⟩ 0 0 none 0 0 none 0 0 none 0 0 0 0 none 0 0), .bool false]) rfl (.inl ⟨by rfl, ?_⟩) ?_
      · intro w9 hSw
        try dsimp only at hSw
        exact ex_look 48 (.tmp 33) (.tmp 34) true rfl _ _ _ rfl rfl (look_no _ w.heap.size lst i s _ (zero_item _) hSw.2.2.1 HL.out)
      try simp only [Act.put, gA, gS, gZ, sA, sZ, sS]
      refine tk 6 (.tuple #[.agg (itC 0 0 ⟨#[]⟩ 0 0 none 0 0 none 0 0 none 0 0 0 0 none 0 0), .bool false]) rfl (.inl ⟨by rfl, ?_⟩) ?_
      · intro w9 hSw
        try dsimp only at hSw
        go_simp
        all_goals try decide
        all_goals try assumption
        all_goals try omega
      try simp only [Act.put, gA, gS, gZ, sA, sZ, sS]
      refine tk 7 (.agg (itC 0 0 ⟨#[]⟩ 0 0 none 0 0 none 0 0 none 0 0 0 0 none 0 0)) rfl (.inl ⟨by rfl, ?_⟩) ?_
      · intro w9 hSw
        try dsimp only at hSw
        go_simp
        all_goals try decide
        all_goals try assumption
        all_goals try omega
      try simp only [Act.put, gA, gS, gZ, sA, sZ, sS]
      refine tk 8 (.bool false) rfl (.inl ⟨by rfl, ?_⟩) ?_
      · intro w9 hSw
        try dsimp only at hSw
        go_simp
        all_goals try decide
        all_goals try assumption
        all_goals try omega
      try simp only [Act.put, gA, gS, gZ, sA, sZ, sS]
      refine wpAnyH_ready (rs := [9]) (by kernel_rfl) (by simp) ?_
      refine AllReadyH.cons rfl (fun K' hK => ?_) AllReadyH.nil
      rw [if_pos (by rfl)]
      simp only [gA, gS, gZ]
      go_wp2_with fail
      refine hK.out _ _ (⟨Below.al hHeld.1 _, ext11 hHeld.2.1, hHeld.2.2.1.next (Below.al (Below.refl _ _) _), ext11 hHeld.2.2.2.1, ext11 hHeld.2.2.2.2⟩) (fun hHeld => ?_)
      clear hK K'
      try simp only [Act.put, gA, gS, gZ, sA, sZ, sS]
      refine wpAnyH_ready (rs := [10]) (by kernel_rfl) (by simp) ?_
      refine AllReadyH.cons rfl (fun K' hK => ?_) AllReadyH.nil
      rw [if_pos (by rfl)]
      simp only [gA, gS, gZ]
      refine wp_store_by 54 _ _ rfl ⟨W3.heap.size, 0, none⟩ _ rfl rfl (storeI _ _ _ 0 0 ⟨#[]⟩ 0 0 none 0 0 none 0 0 none 0 0 0 0 none 0 0 _ (at11 _ (.cells (itC 0 0 ⟨#[]⟩ 0 0 none 0 0 none 0 0 none 0 0 0 0 none 0 0) 54) _ (by simp)) rfl) ?_
      refine hK.out _ _ (⟨below_setRow hHeld.1 S3.out _, (setRow_other _ _ _ _ (by omega)).trans hHeld.2.1, hHeld.2.2.1.kp (Kp.row (S := [W3.heap.size]) (Kp.refl _ _) _ _ (.inl (by simp))) (by simp; omega), (setRow_other _ _ _ _ (by omega)).trans hHeld.2.2.2.1, (setRow_other _ _ _ _ (by omega)).trans hHeld.2.2.2.2⟩) (fun hHeld => ?_)
      clear hK K'
      try simp only [Act.put, gA, gS, gZ, sA, sZ, sS]
      refine tk 11 (.bool false) rfl (.inl ⟨by rfl, ?_⟩) ?_
      · intro w9 hSw
        try dsimp only at hSw
        go_simp
        all_goals try decide
        all_goals try assumption
        all_goals try omega
      try simp only [Act.put, gA, gS, gZ, sA, sZ, sS]
      refine wpAnyH_done (by kernel_rfl) ?_ _
      obtain ⟨W5, HW5⟩ : ∃ W5, Hid ((W3.alloc (.cells (itC 0 0 ⟨#[]⟩ 0 0 none 0 0 none 0 0 none 0 0 0 0 none 0 0) 54)).drew.setRow W3.heap.size (itC 0 0 ⟨#[]⟩ 0 0 none 0 0 none 0 0 none 0 0 0 0 none 0 0) = W5) := ⟨_, rfl⟩
      have B5 : Hid (Below wr.heap.size wr W5) := by show Below _ _ _; rw [← HW5.out]; exact hHeld.1
      have P5 : Hid (W5.heap[w.heap.size + 1]? = some (.cells #[.map (some w.heap.size), .int .i64 0] 50 (0, 0))) := by show _ = _; rw [← HW5.out]; exact hHeld.2.1
      have M5 : Hid (IsM W5 w.heap.size lst) := by show IsM _ _ _; rw [← HW5.out]; exact hHeld.2.2.1
      have E5 : Hid (W5.heap[wr.heap.size]? = some (.cells (enC i s nm t rt d ld cd l ll cl h lh ch tg gr) 44 (0, 0))) := by show _ = _; rw [← HW5.out]; exact hHeld.2.2.2.1
      have L5 : Hid (W5.heap[w2.heap.size]? = some (.cells #[.int .u16 i, .int .u8 s] 33 (0, 0))) := by show _ = _; rw [← HW5.out]; exact hHeld.2.2.2.2
      rw [show (W3.alloc _).drew.setRow W3.heap.size _ = W5 from HW5.out]
      clear hHeld HW5
      have BWR : Hid (∀ x, Kp [w.heap.size] W5 x → Below w.heap.size w x) := fun x hx => Kp.below (Below.andThen BR.out B5.out) hx (by have := BR.out.size; have := B5.out.size; omega) (by simp)
      go_wp2_with fail
      refine wp_region_held_drew (S := fun x => Kp [w.heap.size] W5 x) (by kernel_rfl) (Kp.drew (Kp.refl _ _)) (fun hHeld => ?_)
      refine tk 0 (.pointer (some ⟨w.heap.size + 1, 0, none⟩)) rfl (.inl ⟨by rfl, ?_⟩) ?_
      · intro w9 hSw
        try dsimp only at hSw
        go_simp
        all_goals try decide
        all_goals try assumption
        all_goals try omega
      try simp only [Act.put, gA, gS, gZ, sA, sZ, sS]
      refine tk 1 (.pointer (some ⟨w.heap.size + 1, 0, none⟩)) rfl (.inl ⟨by rfl, ?_⟩) ?_
      · intro w9 hSw
        try dsimp only at hSw
        go_simp
        all_goals try decide
        all_goals try assumption
        all_goals try omega
      try simp only [Act.put, gA, gS, gZ, sA, sZ, sS]
      refine tk 2 (.pointer (some ⟨w.heap.size + 1, 0, none⟩)) rfl (.inl ⟨by rfl, ?_⟩) ?_
      · intro w9 hSw
        try dsimp only at hSw
        go_simp
        all_goals try decide
        all_goals try assumption
        all_goals try omega
      try simp only [Act.put, gA, gS, gZ, sA, sZ, sS]
      refine tk 3 (.map (some w.heap.size)) rfl (.inl ⟨by rfl, ?_⟩) ?_
      · intro w9 hSw
        try dsimp only at hSw
        have c0 : w9.cell? ⟨w.heap.size + 1, 0, none⟩ = some (.map (some w.heap.size)) := by rw [cell_of_row _ _ 0 _ _ _ (hSw.at (by simp) P5.out)]; rfl
        go_simp
        all_goals try assumption
      try simp only [Act.put, gA, gS, gZ, sA, sZ, sS]
      refine tk 4 (plV i s) rfl (.inl ⟨by rfl, ?_⟩) ?_
      · intro w9 hSw
        try dsimp only at hSw
        exact ex_load11 33 (.tmp 7) rfl _ _ rfl (load_part 33 2 sizeP aggP _ (w2.heap.size) 0 [.int .u16 i, .int .u8 s] _ (hSw.at (by simp; omega) L5.out) (by simp))
      try simp only [Act.put, gA, gS, gZ, sA, sZ, sS]
      refine tk 5 (.agg (enC i s nm t rt d ld cd l ll cl h lh ch tg gr)) rfl (.inl ⟨by rfl, ?_⟩) ?_
      · intro w9 hSw
        try dsimp only at hSw
        exact ex_load11 44 (.tmp 6) rfl _ _ rfl (loadE _ _ i s nm t rt d ld cd l ll cl h lh ch tg gr _ (hSw.at (by simp; omega) E5.out))
      try simp only [Act.put, gA, gS, gZ, sA, sZ, sS]
      refine tk 7 (.agg (enC i s nm t rt d ld cd l ll cl h lh ch tg gr)) rfl (.inl ⟨by rfl, ?_⟩) ?_
      · intro w9 hSw
        try dsimp only at hSw
        exact ex_load11 44 (.tmp 6) rfl _ _ rfl (loadE _ _ i s nm t rt d ld cd l ll cl h lh ch tg gr _ (hSw.at (by simp; omega) E5.out))
      try simp only [Act.put, gA, gS, gZ, sA, sZ, sS]
      refine wpAnyH_ready (rs := [6]) (by kernel_rfl) (by simp) ?_
      refine AllReadyH.cons rfl (fun K' hK => ?_) AllReadyH.nil
      rw [if_pos (by rfl)]
      simp only [gA, gS, gZ]
      go_wp2_with fail
      refine (HCO.out _ (BWR.out _ hHeld)).mono ?_
      rintro e w6 ⟨a1, c1, a2, c2, a3, c3, rfl, t1, t2, t3, hb6⟩
      have T1 : Hid (Told _ w6 a1 ld c1 zd) := t1
      have T2 : Hid (Told _ w6 a2 ll c2 zl) := t2
      have T3 : Hid (Told _ w6 a3 lh c3 zh) := t3
      have N6 : Hid (Below W5.drew.heap.size W5.drew w6) := hb6
      clear t1 t2 t3
      try go_wp2_with fail
      refine hK.out _ _ (hHeld.trans (Kp.of hb6)) (fun hHeld => ?_)
      clear hK K'
      try simp only [Act.put, gA, gS, gZ, sA, sZ, sS]
      refine wpAnyH_ready (rs := [8]) (by kernel_rfl) (by simp) ?_
      refine AllReadyH.cons rfl (fun K' hK => ?_) AllReadyH.nil
      rw [if_pos (by rfl)]
      simp only [gA, gS, gZ]
      go_wp2_with fail
      refine (HFI.out _ (BWR.out _ hHeld)).mono ?_
      rintro e w7 ⟨af, nf, cf, rfl, hqf, hb7⟩
      have QF : Hid (SlOk w7 af nf cf (firstL t zd)) := hqf
      have N7 : Hid (Below w6.heap.size w6 w7) := hb7
      clear hqf
      try go_wp2_with fail
      refine hK.out _ _ (hHeld.trans (Kp.of hb7)) (fun hHeld => ?_)
      clear hK K'
      try simp only [Act.put, gA, gS, gZ, sA, sZ, sS]
      refine wpAnyH_ready (rs := [9]) (by kernel_rfl) (by simp) ?_
      refine AllReadyH.cons rfl (fun K' hK => ?_) AllReadyH.nil
      rw [if_pos (by rfl)]
      simp only [gA, gS, gZ]
      go_wp2_with fail
      refine (clone8_any af nf cf _ _ QF.out.row (NF QF.out)).mono ?_
      rintro e w8 ⟨⟨av, cv, rfl, htv⟩, hb8⟩
      have TV : Hid (Told w7 w8 av nf cv (firstL t zd)) := htv
      have N8 : Hid (Below w7.heap.size w7 w8) := hb8
      clear htv
      try go_wp2_with fail
      refine hK.out _ _ (hHeld.trans (Kp.of hb8)) (fun hHeld => ?_)
      clear hK K'
      try simp only [Act.put, gA, gS, gZ, sA, sZ, sS]
      refine tk 10 (.agg (itC i s nm t rt a1 ld c1 a2 ll c2 a3 lh c3 tg gr av nf cv)) rfl (.inl ⟨by rfl, ?_⟩) ?_
      · intro w9 hSw
        try dsimp only at hSw
        go_simp
        all_goals try decide
        all_goals try assumption
        all_goals try omega
      try simp only [Act.put, gA, gS, gZ, sA, sZ, sS]
      refine wpAnyH_ready (rs := [11]) (by kernel_rfl) (by simp) ?_
      refine AllReadyH.cons rfl (fun K' hK => ?_) AllReadyH.nil
      rw [if_pos (by rfl)]
      simp only [gA, gS, gZ]
      have M8 : Hid (IsM w8 w.heap.size lst) := (((show IsM W5.drew w.heap.size lst from M5.out).next N6.out).next N7.out).next N8.out
      obtain ⟨w9, hrun, hM9, hK9⟩ := upd_run w8 w.heap.size lst i s (.agg (itC i s nm t rt a1 ld c1 a2 ll c2 a3 lh c3 tg gr av nf cv)) M8.out
      have M9 : Hid (IsM w9 w.heap.size (putP lst i s (.agg (itC i s nm t rt a1 ld c1 a2 ll c2 a3 lh c3 tg gr av nf cv)))) := hM9
      have K9 : Hid (Kp [w.heap.size] w8 w9) := hK9
      have K59 : Hid (Kp [w.heap.size] W5 w9) := hHeld.trans hK9
      refine wp_upd_by 48 _ _ _ rfl _ _ _ rfl rfl rfl hrun ?_
      refine hK.out _ _ (K59.out) (fun hHeld => ?_)
      clear hK K'
      try simp only [Act.put, gA, gS, gZ, sA, sZ, sS]
      refine wpAnyH_done (by kernel_rfl) ?_ _
      have BU9 : Hid (Built w9 (w.heap.size + 2) (es.take (k + 1)) (lst ++ [(i, s, .agg (itC i s nm t rt a1 ld c1 a2 ll c2 a3 lh c3 tg gr av nf cv))])) := by
        show Built _ _ _ _
        rw [HTK.out]
        have s5 : w.heap.size + 2 ≤ W5.heap.size := by have := B5.out.size; omega
        have s6 : w.heap.size + 2 ≤ w6.heap.size := Nat.le_trans s5 N6.out.size
        have s7 : w.heap.size + 2 ≤ w7.heap.size := Nat.le_trans s6 N7.out.size
        have hS : ∀ {x : World}, ∀ b ∈ [w.heap.size], b < w.heap.size + 2 ∨ x.heap.size ≤ b := fun b hb => by simp at hb; omega
        have n69 : Kp [w.heap.size] w6 w9 := ((Kp.of N7.out).trans (Kp.of N8.out)).trans K9.out
        refine (BUR.out.kp ((Kp.of B5.out).trans K59.out) hS).snoc _ _ ⟨a1, c1, a2, c2, a3, c3, av, nf, cv, rfl, ?_, ?_, ?_, ?_⟩
        · exact (T1.out.kept s5).kp n69 hS
        · exact (T2.out.kept s5).kp n69 hS
        · exact (T3.out.kept s5).kp n69 hS
        · exact (TV.out.kept s7).kp K9.out hS
      have P9 : Hid (w9.heap[w.heap.size + 1]? = some (.cells #[.map (some w.heap.size), .int .i64 0] 50 (0, 0))) := K59.out.at (by simp) P5.out
      have M9' : Hid (IsM w9 w.heap.size (lst ++ [(i, s, .agg (itC i s nm t rt a1 ld c1 a2 ll c2 a3 lh c3 tg gr av nf cv))])) := by show IsM _ _ _; rw [← look_put HL.out]; exact M9.out
      have B9 : Hid (Below w.heap.size w w9) := BWR.out _ K59.out
      clear hHeld
      go_wp2_with fail
      first
        | exact ⟨⟨k + 1, by have := HK.out; omega, by go_num, HG9, B9.out, P9.out, _, M9'.out, BU9.out⟩, by have := HK.out; simp [intOf]; omega⟩
        | (refine ⟨?_, ?_⟩
           · (repeat apply Exists.intro)
             refine ⟨?_, rfl⟩
             exact ⟨k + 1, by have := HK.out; omega, by go_num, HG9, B9.out, P9.out, _, M9'.out, BU9.out⟩
           · have := HK.out; simp [intOf]; omega)
    · obtain rfl : k = N := by omega
      go_wp2_with fail
      go_ret2
      have C0 : newC es = 0 := by rw [HG.out, List.drop_of_length_le (by have := HN.out; omega)]; rfl
      refine Or.inl ⟨C0, lst, rfl, BR.out, PR.out, MR.out, ?_⟩
      have := BUR.out
      rwa [List.take_of_length_le (by have := HN.out; omega)] at this
end Go.Proofs.YtpjmebaipnpegaaDoor
