/-
  New: of any entries that came in.
  Entries put into a row in order: the code and the row of the document's New.
  Rows of the document's items, put one behind the other.
  What the document's New keeps, entry by entry.
  The document's New: of any entries that came in.
  What is refused, and what is empty.
  Any Maps that came in, of any dictionary: check, Check.
  What New's dictionary holds; Size and Pack of any Maps that came in.
  What has been packed, bit by bit.
  Unpack of any Maps that came in.
  Unpack of any Maps that may be, of any dictionary; gaps.
  A dictionary in memory, place by place: May and Write of any place.
  Write of any place; what a dictionary is behind it.
  What New made, place by place; dictionaries that are the same but for their values.
  The document's Check and Size of any Maps.
-/
import Derived.Test.YtajllkkbgpijiaaGreatDoorIf
import Derived.Test.YtajllkkbgpijiaaGreatDoorTk9
import Derived.Test.YtajllkkbgpijiaaGreatDoorGa
import Derived.Deep.AppendLies
import Derived.Great.BuildSlice
import Derived.Laws.BitsAllLaws
namespace Go.Proofs.YtajllkkbgpijiaaGreatDoor
open Go.RowKit

/-- An entry that came in, whatever it is. -/
structure EmIn (w : World) (e : Em) : Prop where
  rd : SlOk w e.d e.ld e.cd e.zd
  rl : SlOk w e.l e.ll e.cl e.zl
  rh : SlOk w e.h e.lh e.ch e.zh
  b1 : e.ld ≤ 16777216
  b2 : e.ll ≤ 16777216
  b3 : e.lh ≤ 16777216
def EmAtO (w : World) (eb off k : Nat) (e : Em) : Prop := w.cell? ⟨eb, off + k * 10, none⟩ = some (.int .u16 e.i) ∧ w.cell? ⟨eb, off + k * 10 + 1, none⟩ = some (.int .u8 e.s) ∧ w.cell? ⟨eb, off + k * 10 + 2, none⟩ = some (.string e.nm) ∧ w.cell? ⟨eb, off + k * 10 + 3, none⟩ = some (.int .u8 e.t) ∧ w.cell? ⟨eb, off + k * 10 + 4, none⟩ = some (.int .u8 e.rt) ∧ w.cell? ⟨eb, off + k * 10 + 5, none⟩ = some (.slice e.d e.ld e.cd) ∧ w.cell? ⟨eb, off + k * 10 + 6, none⟩ = some (.slice e.l e.ll e.cl) ∧ w.cell? ⟨eb, off + k * 10 + 7, none⟩ = some (.slice e.h e.lh e.ch) ∧ w.cell? ⟨eb, off + k * 10 + 8, none⟩ = some (.int .u8 e.tg) ∧ w.cell? ⟨eb, off + k * 10 + 9, none⟩ = some (.int .u8 e.gr)
/-- May it be? -/
def mayE (e : Em) : Bool := mayB e.nm e.t e.rt e.gr e.zd e.zl e.zh
/-- The code that New tells of entries, those ahead given. -/
def newG : List Em → List Em → Int
  | _, [] => 0
  | a, e :: r => if mayE e = false then 80 else if (a.any fun x => e.i == x.i && e.s == x.s) = true then 6 else newG (a ++ [e]) r
def newC (es : List Em) : Int := if 1024 < es.length then 3 else newG [] es
theorem newG_step (es : List Em) (k : Nat) (e : Em) (h : es[k]? = some e) : newG (es.take k) (es.drop k) = if mayE e = false then 80 else if ((es.take k).any fun x => e.i == x.i && e.s == x.s) = true then 6 else newG (es.take (k + 1)) (es.drop (k + 1)) := by
  obtain ⟨hk, he⟩ := List.getElem?_eq_some_iff.1 h
  rw [List.drop_eq_getElem_cons hk, List.take_succ_eq_append_getElem hk, he]
  rfl
theorem any_no {es : List Em} {i s : Int} (h : (es.any fun x => i == x.i && s == x.s) = false) : ∀ e ∈ es, ¬ (i = e.i ∧ s = e.s) := fun e he => by
  have := List.any_eq_false.1 h e he
  simpa using this
theorem lookP_none : ∀ (lst : Mp) (i s : Int), lookP lst i s = none → ∀ x ∈ lst, ¬ (i = x.1 ∧ s = x.2.1)
  | [], _, _, _, x, hx => by cases hx
  | y :: l, i, s, h, x, hx => by
    simp only [lookP] at h
    split at h
    · cases h
    · rename_i hn
      rcases List.mem_cons.1 hx with rfl | hx
      · simpa using hn
      · exact lookP_none l i s h x hx
theorem lookP_mem : ∀ (lst : Mp) (i s : Int) (v : Value), lookP lst i s = some v → (i, s, v) ∈ lst
  | [], _, _, _, h => by cases h
  | y :: l, i, s, v, h => by
    simp only [lookP] at h
    split at h
    · rename_i hn
      cases h
      obtain ⟨rfl, rfl⟩ : i = y.1 ∧ s = y.2.1 := by simpa using hn
      exact List.mem_cons_self
    · exact List.mem_cons_of_mem _ (lookP_mem l i s v h)
theorem Built.found {w : World} {lo : Nat} {es : List Em} {lst : Mp} (h : Built w lo es lst) (i s : Int) (hu : (es.any fun x => i == x.i && s == x.s) = true) : ∃ i7 s7 nm7 t7 rt7 d7 ld7 cd7 l7 ll7 cl7 h7 lh7 ch7 tg7 gr7 v7 lv7 cv7, lookP lst i s = some (.agg (itC i7 s7 nm7 t7 rt7 d7 ld7 cd7 l7 ll7 cl7 h7 lh7 ch7 tg7 gr7 v7 lv7 cv7)) := by
  cases hq : lookP lst i s with
  | none =>
    exfalso
    obtain ⟨e, he, hm⟩ := List.any_eq_true.1 hu
    obtain ⟨k, hk, hk2⟩ := List.getElem_of_mem he
    obtain ⟨_, _, _, _, _, _, _, _, _, g, _⟩ := h.2 k e (by rw [List.getElem?_eq_getElem hk, hk2])
    exact lookP_none lst i s hq _ (List.mem_of_getElem? g) (by simpa using hm)
  | some v =>
    have hm := lookP_mem lst i s v hq
    obtain ⟨k, hk, hk2⟩ := List.getElem_of_mem hm
    have hk' : k < es.length := by have := h.1; omega
    obtain ⟨_, _, _, _, _, _, _, _, _, g, _⟩ := h.2 k es[k] (List.getElem?_eq_getElem hk')
    rw [List.getElem?_eq_getElem hk, hk2] at g
    cases g
    exact ⟨_, _, _, _, _, _, _, _, _, _, _, _, _, _, _, _, _, _, _, rfl⟩
/-- A dictionary was made, or the code tells why not. -/
def NewAny (es : List Em) (w : World) (r : Ending) (w' : World) : Prop :=
  (newC es = 0 ∧ NewPost es w r w') ∨ (newC es ≠ 0 ∧ r = .returned (.tuple #[.pointer none, .int .i64 (newC es)]) ∧ Below w.heap.size w w')

set_option linter.unusedSimpArgs false in
set_option maxHeartbeats 4000000 in
set_option maxRecDepth 100000 in
theorem new_any (ad : Option Addr) (eb off cap : Nat) (es : List Em) (w : World) (had : 0 < es.length → ad = some ⟨eb, off, none⟩) (hok : ∀ e ∈ es, EmIn w e) (hat : ∀ (k : Nat) (e : Em), es[k]? = some e → EmAtO w eb off k e) (hT : Ty.Tab64 w) :
    Calls Tryz.prog 14 #[.slice ad es.length cap] w (NewAny es w) := by
  have HAD : Hid (0 < es.length → ad = some ⟨eb, off, none⟩) := had
  obtain ⟨N, HN⟩ : ∃ N, Hid (es.length = N) := ⟨_, rfl⟩
  have HOK : Hid (∀ e ∈ es, EmIn w e) := hok
  have HAT : Hid (∀ (k : Nat) (e : Em), es[k]? = some e → EmAtO w eb off k e) := hat
  have HT : Hid (Ty.Tab64 w) := hT
  have hmm := makeMap_run
  clear hok hat hT had
  rw [HN.out]
  by_cases hbig : 1024 < N
  · have hN' : (1024 : Int) < (N : Int) := by omega
    have C3 : Hid (newC es = 3) := by
      show newC es = 3
      unfold newC
      rw [HN.out, if_pos hbig]
    go_enter Tryz.func14, Tryz.ntmps14
    go_wp2_with fail
    go_ret2
    exact Or.inr ⟨by rw [C3.out]; decide, by rw [C3.out]; rfl, (by repeat (first | exact Below.refl _ _ | apply Below.drew | apply Below.al))⟩
  have hN' : ¬ (1024 : Int) < (N : Int) := by omega
  have HC0 : Hid (newC es = newG (es.take 0) (es.drop 0)) := by
    show newC es = _
    unfold newC
    rw [HN.out, if_neg hbig]
    rfl
  go_enter Tryz.func14, Tryz.ntmps14
  go_wp2_with fail
  clear hmm
  go_loopw [20] (fun iv wr => ∃ k : Nat, k ≤ N ∧ iv = .int .i64 (k : Int) ∧ Hid (newC es = newG (es.take k) (es.drop k)) ∧ Hid (Below w.heap.size w wr ∧ wr.heap[w.heap.size + 1]? = some (.cells #[.map (some w.heap.size), .int .i64 0] 91 (0, 0)) ∧ ∃ lst, IsM wr w.heap.size lst ∧ Built wr (w.heap.size + 2) (es.take k) lst)) (fun iv _ => N - (intOf iv).toNat)
  case atStart => exact ⟨0, Nat.zero_le _, rfl, HC0, (by repeat (first | exact Below.refl _ _ | apply Below.drew | apply Below.al)), at11 _ _ _ (by simp), [], (isM_new w).next (by repeat (first | exact Below.refl _ _ | apply Below.drew | apply Below.al)), by simp, fun k e he => by simp at he⟩
  case round =>
    obtain ⟨k, hk, rfl, HG, HI⟩ := hrel
    obtain ⟨hB0, hP0, lst, hM0, hBu0⟩ := HI.out
    have BR : Hid (Below w.heap.size w wr) := hB0
    have PR : Hid (wr.heap[w.heap.size + 1]? = some (.cells #[.map (some w.heap.size), .int .i64 0] 91 (0, 0))) := hP0
    have MR : Hid (IsM wr w.heap.size lst) := hM0
    have BUR : Hid (Built wr (w.heap.size + 2) (es.take k) lst) := hBu0
    clear hB0 hP0 hM0 hBu0 HI
    have lpr : w.heap.size + 1 < wr.heap.size := lt_of_heap PR.out
    by_cases hlt : k < N
    · have hlt' : (k : Int) < (N : Int) := by omega
      have HK : Hid (k < N) := hlt
      have hk9 : k < es.length := by have := HN.out; omega
      obtain ⟨e, hE⟩ : ∃ e, es[k]? = some e := ⟨es[k], List.getElem?_eq_getElem hk9⟩
      have HE : Hid (es[k]? = some e) := hE
      have hin : e ∈ es := List.mem_of_getElem? hE
      have hOK := HOK.out e hin
      have hAT := HAT.out k e hE
      obtain rfl := HAD.out (by omega)
      have HGZ : Hid (newC es = if mayE e = false then 80 else if ((es.take k).any fun x => e.i == x.i && e.s == x.s) = true then 6 else newG (es.take (k + 1)) (es.drop (k + 1))) := HG.out.trans (newG_step es k e hE)
      obtain ⟨u, HU⟩ : ∃ u, Hid (((es.take k).any fun x => e.i == x.i && e.s == x.s) = u) := ⟨_, rfl⟩
      have HLO : Hid (if u = true then ∃ i7 s7 nm7 t7 rt7 d7 ld7 cd7 l7 ll7 cl7 h7 lh7 ch7 tg7 gr7 v7 lv7 cv7, lookP lst e.i e.s = some (.agg (itC i7 s7 nm7 t7 rt7 d7 ld7 cd7 l7 ll7 cl7 h7 lh7 ch7 tg7 gr7 v7 lv7 cv7)) else lookP lst e.i e.s = none) := by
        show if u = true then _ else _
        cases u
        · exact BUR.out.key _ _ (any_no HU.out)
        · exact BUR.out.found _ _ HU.out
      have HTK : Hid (es.take (k + 1) = es.take k ++ [e]) := by show _ = _; rw [List.take_succ_eq_append_getElem hk9]; congr; exact (Option.some.inj ((List.getElem?_eq_getElem hk9).symm.trans hE))
      obtain ⟨i, s, nm, t, rt, d, ld, cd, l, ll, cl, h, lh, ch, tg, gr, zd, zl, zh⟩ := e
      dsimp only [EmAtO] at hAT
      obtain ⟨rd, rl, rh, b1, b2, b3⟩ := hOK
      dsimp only at HLO rd rl rh b1 b2 b3
      obtain ⟨q, HQ⟩ : ∃ q, Hid (mayB nm t rt gr zd zl zh = q) := ⟨_, rfl⟩
      have HGS : Hid (newC es = if q = false then 80 else if u = true then 6 else newG (es.take (k + 1)) (es.drop (k + 1))) := by
        show newC es = _
        rw [← HQ.out, ← HU.out]
        exact HGZ.out
      clear HGZ HU
      have HCO : Hid (∀ W, Below w.heap.size w W → Calls Tryz.prog 37 #[.agg (enC i s nm t rt d ld cd l ll cl h lh ch tg gr)] W (CopyPost i s nm t rt ld ll lh tg gr zd zl zh W)) := fun W hb => copyOf_any i s nm t rt d ld cd l ll cl h lh ch tg gr zd zl zh W (rd.next hb) (rl.next hb) (rh.next hb) b1 b2 b3
      have HFI : Hid (∀ W, Below w.heap.size w W → Calls Tryz.prog 39 #[.agg (enC i s nm t rt d ld cd l ll cl h lh ch tg gr)] W fun e w' => ∃ a n c, e = .returned (.slice a n c) ∧ SlOk w' a n c (firstL t zd) ∧ Below W.heap.size W w') := fun W hb => atFirst_any i s nm t rt d ld cd l ll cl h lh ch tg gr zd W (rd.next hb)
      have HMB : Hid (∀ W, Below w.heap.size w W → Calls Tryz.prog 35 #[.agg (enC i s nm t rt d ld cd l ll cl h lh ch tg gr)] W fun e w' => e = .returned (.bool q) ∧ Below W.heap.size W w') := fun W hb => by rw [← HQ.out]; exact mayBe_any i s nm t rt d ld cd l ll cl h lh ch tg gr zd zl zh W (rd.next hb) (rl.next hb) (rh.next hb) (tab_next HT.out hb)
      have hzd : zd.length ≤ 16777216 := by rw [rd.row.size]; exact b1
      have NF := fun {W : World} {a : Option Addr} {n c : Nat} (hq : SlOk W a n c (firstL t zd)) => NF hq hzd
      obtain ⟨m0, m1, m2, m3, m4, m5, m6, m7, m8, m9⟩ := hAT
      have g0 : wr.cell? ⟨eb, off + k * 10, none⟩ = some (.int .u16 i) := (BR.out.cell (block_lt_of_cell m0)).trans m0
      have g1 : wr.cell? ⟨eb, off + k * 10 + 1, none⟩ = some (.int .u8 s) := (BR.out.cell (block_lt_of_cell m1)).trans m1
      have g2 : wr.cell? ⟨eb, off + k * 10 + 2, none⟩ = some (.string nm) := (BR.out.cell (block_lt_of_cell m2)).trans m2
      have g3 : wr.cell? ⟨eb, off + k * 10 + 3, none⟩ = some (.int .u8 t) := (BR.out.cell (block_lt_of_cell m3)).trans m3
      have g4 : wr.cell? ⟨eb, off + k * 10 + 4, none⟩ = some (.int .u8 rt) := (BR.out.cell (block_lt_of_cell m4)).trans m4
      have g5 : wr.cell? ⟨eb, off + k * 10 + 5, none⟩ = some (.slice d ld cd) := (BR.out.cell (block_lt_of_cell m5)).trans m5
      have g6 : wr.cell? ⟨eb, off + k * 10 + 6, none⟩ = some (.slice l ll cl) := (BR.out.cell (block_lt_of_cell m6)).trans m6
      have g7 : wr.cell? ⟨eb, off + k * 10 + 7, none⟩ = some (.slice h lh ch) := (BR.out.cell (block_lt_of_cell m7)).trans m7
      have g8 : wr.cell? ⟨eb, off + k * 10 + 8, none⟩ = some (.int .u8 tg) := (BR.out.cell (block_lt_of_cell m8)).trans m8
      have g9 : wr.cell? ⟨eb, off + k * 10 + 9, none⟩ = some (.int .u8 gr) := (BR.out.cell (block_lt_of_cell m9)).trans m9
      clear rd rl rh b1 b2 b3 hE hin hlt hk9 HQ HG m0 m1 m2 m3 m4 m5 m6 m7 m8 m9
      go_wp2_with (refine wpList_load_by rfl 52 _ rfl ⟨wr.heap.size, 0, none⟩ _ rfl (loadE _ _ i s nm t rt d ld cd l ll cl h lh ch tg gr _ (at11 _ _ _ rfl)) ?_)
      clear g0 g1 g2 g3 g4 g5 g6 g7 g8 g9
      refine (HMB.out _ (Below.al BR.out _)).mono ?_
      rintro r w1 ⟨rfl, hb⟩
      have B1 : Hid (Below wr.heap.size wr w1) := Below.andThen (Below.al (Below.refl _ _) _) hb
      have E1 : Hid (w1.heap[wr.heap.size]? = some (.cells (enC i s nm t rt d ld cd l ll cl h lh ch tg gr) 52 (0, 0))) := blk11 hb (at11 _ _ _ rfl)
      have le1 := lt_of_heap E1.out
      clear hb
      cases q
      case false =>
        have C80 : Hid (newC es = 80) := HGS.out
        go_wp2_with fail
        go_ret2
        exact Or.inr ⟨by rw [C80.out]; decide, by rw [C80.out]; rfl, Below.andThen BR.out B1.out⟩
      go_wp2_with (refine wpList_load_by rfl 52 _ rfl ⟨wr.heap.size, 0, none⟩ _ rfl (loadE _ _ i s nm t rt d ld cd l ll cl h lh ch tg gr _ E1.out) ?_)
      refine (placeOf_any i s nm t rt d ld cd l ll cl h lh ch tg gr _).mono ?_
      rintro r w2 ⟨rfl, hb⟩
      have B2 : Hid (Below wr.heap.size wr w2) := Below.andThen B1.out hb
      have E2 : Hid (w2.heap[wr.heap.size]? = some (.cells (enC i s nm t rt d ld cd l ll cl h lh ch tg gr) 52 (0, 0))) := blk11 hb E1.out
      have le2 := lt_of_heap E2.out
      clear hb
      go_wp2_with fail
      obtain ⟨W3, HW3⟩ : ∃ W3, Hid (w2.alloc (.cells #[.int .u16 i, .int .u8 s] 43) = W3) := ⟨_, rfl⟩
      have B3 : Hid (Below wr.heap.size wr W3) := by show Below _ _ _; rw [← HW3.out]; exact Below.al B2.out _
      have E3 : Hid (W3.heap[wr.heap.size]? = some (.cells (enC i s nm t rt d ld cd l ll cl h lh ch tg gr) 52 (0, 0))) := by show _ = _; rw [← HW3.out]; exact ext11 E2.out
      have L3 : Hid (W3.heap[w2.heap.size]? = some (.cells #[.int .u16 i, .int .u8 s] 43 (0, 0))) := by show _ = _; rw [← HW3.out]; exact at11 _ _ _ rfl
      have P3 : Hid (W3.heap[w.heap.size + 1]? = some (.cells #[.map (some w.heap.size), .int .i64 0] 91 (0, 0))) := blk11 B3.out PR.out
      have M3 : Hid (IsM W3 w.heap.size lst) := MR.out.next B3.out
      have S3 : Hid (wr.heap.size ≤ W3.heap.size) := B3.out.size
      have ll3 := lt_of_heap L3.out
      rw [HW3.out]
      cases u
      case true =>
        have C6 : Hid (newC es = 6) := HGS.out
        obtain ⟨i7, s7, nm7, t7, rt7, d7, ld7, cd7, l7, ll7, cl7, h7, lh7, ch7, tg7, gr7, v7, lv7, cv7, hlf⟩ := HLO.out
        have HLF : Hid (lookP lst i s = some (.agg (itC i7 s7 nm7 t7 rt7 d7 ld7 cd7 l7 ll7 cl7 h7 lh7 ch7 tg7 gr7 v7 lv7 cv7))) := hlf
        clear hlf
        refine wp_region_held_drew (S := fun x => Below wr.heap.size wr x ∧ x.heap[w.heap.size + 1]? = some (.cells #[.map (some w.heap.size), .int .i64 0] 91 (0, 0)) ∧ IsM x w.heap.size lst ∧ x.heap[wr.heap.size]? = some (.cells (enC i s nm t rt d ld cd l ll cl h lh ch tg gr) 52 (0, 0)) ∧ x.heap[w2.heap.size]? = some (.cells #[.int .u16 i, .int .u8 s] 43 (0, 0))) (by kernel_rfl) (⟨Below.drew B3.out, P3.out, M3.out, E3.out, L3.out⟩) (fun hHeld => ?_)
        refine tk 0 (.pointer (some ⟨w.heap.size + 1, 0, none⟩)) rfl (.inl ⟨by rfl, ?_⟩) ?_
        · intro w9 hSw
          try dsimp only at hSw
          go_simp
          all_goals try decide
          all_goals try assumption
          all_goals try omega
        try simp only [Act.put, gA, gS, gZ, sA, sZ, sS]
        refine tk 1 (.pointer (some ⟨w.heap.size + 1, 0, none⟩)) rfl (.inl ⟨by rfl, ?_⟩) ?_
        · intro w9 hSw
          try dsimp only at hSw
          go_simp
          all_goals try decide
          all_goals try assumption
          all_goals try omega
        try simp only [Act.put, gA, gS, gZ, sA, sZ, sS]
        refine tk 2 (.pointer (some ⟨w.heap.size + 1, 0, none⟩)) rfl (.inl ⟨by rfl, ?_⟩) ?_
        · intro w9 hSw
          try dsimp only at hSw
          go_simp
          all_goals try decide
          all_goals try assumption
          all_goals try omega
        try simp only [Act.put, gA, gS, gZ, sA, sZ, sS]
        refine tk 3 (.map (some w.heap.size)) rfl (.inl ⟨by rfl, ?_⟩) ?_
        · intro w9 hSw
          try dsimp only at hSw
          have c0 : w9.cell? ⟨w.heap.size + 1, 0, none⟩ = some (.map (some w.heap.size)) := by rw [cell_of_row _ _ 0 _ _ _ hSw.2.1]; rfl
          go_simp
          all_goals try assumption
        try simp only [Act.put, gA, gS, gZ, sA, sZ, sS]
        refine tk 4 (plV i s) rfl (.inl ⟨by rfl, ?_⟩) ?_
        · intro w9 hSw
          try dsimp only at hSw
          exact ex_load11 43 (.tmp 7) rfl _ _ rfl (load_part 43 2 sizeP aggP _ (w2.heap.size) 0 [.int .u16 i, .int .u8 s] _ hSw.2.2.2.2 (by simp))
        try simp only [Act.put, gA, gS, gZ, sA, sZ, sS]
        refine tk 5 (.tuple #[.agg (itC i7 s7 nm7 t7 rt7 d7 ld7 cd7 l7 ll7 cl7 h7 lh7 ch7 tg7 gr7 v7 lv7 cv7), .bool true]) rfl (.inl ⟨by rfl, ?_⟩) ?_
        · intro w9 hSw
          try dsimp only at hSw
          exact ex_look 89 (.tmp 33) (.tmp 34) true rfl _ _ _ rfl rfl (look_ok _ w.heap.size lst i s _ hSw.2.2.1 HLF.out)
        try simp only [Act.put, gA, gS, gZ, sA, sZ, sS]
        refine tk 6 (.tuple #[.agg (itC i7 s7 nm7 t7 rt7 d7 ld7 cd7 l7 ll7 cl7 h7 lh7 ch7 tg7 gr7 v7 lv7 cv7), .bool true]) rfl (.inl ⟨by rfl, ?_⟩) ?_
        · intro w9 hSw
          try dsimp only at hSw
          go_simp
          all_goals try decide
          all_goals try assumption
          all_goals try omega
        try simp only [Act.put, gA, gS, gZ, sA, sZ, sS]
        refine tk 7 (.agg (itC i7 s7 nm7 t7 rt7 d7 ld7 cd7 l7 ll7 cl7 h7 lh7 ch7 tg7 gr7 v7 lv7 cv7)) rfl (.inl ⟨by rfl, ?_⟩) ?_
        · intro w9 hSw
          try dsimp only at hSw
          go_simp
          all_goals try decide
          all_goals try assumption
          all_goals try omega
        try simp only [Act.put, gA, gS, gZ, sA, sZ, sS]
        refine tk 8 (.bool true) rfl (.inl ⟨by rfl, ?_⟩) ?_
        · intro w9 hSw
          try dsimp only at hSw
          go_simp
          all_goals try decide
          all_goals try assumption
          all_goals try omega
        try simp only [Act.put, gA, gS, gZ, sA, sZ, sS]
        refine wpAnyH_ready (rs := [9]) (by kernel_rfl) (by simp) ?_
        refine AllReadyH.cons rfl (fun K' hK => ?_) AllReadyH.nil
        rw [if_pos (by rfl)]
        simp only [gA, gS, gZ]
        go_wp2_with fail
        refine hK.out _ _ (⟨Below.al hHeld.1 _, ext11 hHeld.2.1, hHeld.2.2.1.next (Below.al (Below.refl _ _) _), ext11 hHeld.2.2.2.1, ext11 hHeld.2.2.2.2⟩) (fun hHeld => ?_)
        clear hK K'
        try simp only [Act.put, gA, gS, gZ, sA, sZ, sS]
        refine wpAnyH_ready (rs := [10]) (by kernel_rfl) (by simp) ?_
        refine AllReadyH.cons rfl (fun K' hK => ?_) AllReadyH.nil
        rw [if_pos (by rfl)]
        simp only [gA, gS, gZ]
        refine wp_store_by 95 _ _ rfl ⟨W3.heap.size, 0, none⟩ _ rfl rfl (storeI _ _ _ i7 s7 nm7 t7 rt7 d7 ld7 cd7 l7 ll7 cl7 h7 lh7 ch7 tg7 gr7 v7 lv7 cv7 _ (at11 _ (.cells (itC 0 0 ⟨#[]⟩ 0 0 none 0 0 none 0 0 none 0 0 0 0 none 0 0) 95) _ (by simp)) rfl) ?_
        refine hK.out _ _ (⟨below_setRow hHeld.1 S3.out _, (setRow_other _ _ _ _ (by omega)).trans hHeld.2.1, hHeld.2.2.1.kp (Kp.row (S := [W3.heap.size]) (Kp.refl _ _) _ _ (.inl (by simp))) (by simp; omega), (setRow_other _ _ _ _ (by omega)).trans hHeld.2.2.2.1, (setRow_other _ _ _ _ (by omega)).trans hHeld.2.2.2.2⟩) (fun hHeld => ?_)
        clear hK K'
        try simp only [Act.put, gA, gS, gZ, sA, sZ, sS]
        refine tk 11 (.bool true) rfl (.inl ⟨by rfl, ?_⟩) ?_
        · intro w9 hSw
          try dsimp only at hSw
          go_simp
          all_goals try decide
          all_goals try assumption
          all_goals try omega
        try simp only [Act.put, gA, gS, gZ, sA, sZ, sS]
        refine wpAnyH_done (by kernel_rfl) ?_ _
        go_wp2_with fail
        go_ret2
        exact Or.inr ⟨by rw [C6.out]; decide, by rw [C6.out]; rfl, Below.andThen BR.out hHeld.1⟩
      have HL : Hid (lookP lst i s = none) := HLO.out
      have HG9 : Hid (newC es = newG (es.take (k + 1)) (es.drop (k + 1))) := HGS.out
      refine wp_region_held_drew (S := fun x => Below wr.heap.size wr x ∧ x.heap[w.heap.size + 1]? = some (.cells #[.map (some w.heap.size), .int .i64 0] 91 (0, 0)) ∧ IsM x w.heap.size lst ∧ x.heap[wr.heap.size]? = some (.cells (enC i s nm t rt d ld cd l ll cl h lh ch tg gr) 52 (0, 0)) ∧ x.heap[w2.heap.size]? = some (.cells #[.int .u16 i, .int .u8 s] 43 (0, 0))) (by kernel_rfl) (⟨Below.drew B3.out, P3.out, M3.out, E3.out, L3.out⟩) (fun hHeld => ?_)
      refine tk 0 (.pointer (some ⟨w.heap.size + 1, 0, none⟩)) rfl (.inl ⟨by rfl, ?_⟩) ?_
      · intro w9 hSw
        try dsimp only at hSw
        go_simp
        all_goals try decide
        all_goals try assumption
        all_goals try omega
      try simp only [Act.put, gA, gS, gZ, sA, sZ, sS]
      refine tk 1 (.pointer (some ⟨w.heap.size + 1, 0, none⟩)) rfl (.inl ⟨by rfl, ?_⟩) ?_
      · intro w9 hSw
        try dsimp only at hSw
        go_simp
        all_goals try decide
        all_goals try assumption
        all_goals try omega
      try simp only [Act.put, gA, gS, gZ, sA, sZ, sS]
      refine tk 2 (.pointer (some ⟨w.heap.size + 1, 0, none⟩)) rfl (.inl ⟨by rfl, ?_⟩) ?_
      · intro w9 hSw
        try dsimp only at hSw
        go_simp
        all_goals try decide
        all_goals try assumption
        all_goals try omega
      try simp only [Act.put, gA, gS, gZ, sA, sZ, sS]
      refine tk 3 (.map (some w.heap.size)) rfl (.inl ⟨by rfl, ?_⟩) ?_
      · intro w9 hSw
        try dsimp only at hSw
        have c0 : w9.cell? ⟨w.heap.size + 1, 0, none⟩ = some (.map (some w.heap.size)) := by rw [cell_of_row _ _ 0 _ _ _ hSw.2.1]; rfl
        go_simp
        all_goals try assumption
      try simp only [Act.put, gA, gS, gZ, sA, sZ, sS]
      refine tk 4 (plV i s) rfl (.inl ⟨by rfl, ?_⟩) ?_
      · intro w9 hSw
        try dsimp only at hSw
        exact ex_load11 43 (.tmp 7) rfl _ _ rfl (load_part 43 2 sizeP aggP _ (w2.heap.size) 0 [.int .u16 i, .int .u8 s] _ hSw.2.2.2.2 (by simp))
      try simp only [Act.put, gA, gS, gZ, sA, sZ, sS]
      refine tk 5 (.tuple #[.agg (itC 0 0 ⟨#[]⟩ 0 0 none 0 0 none 0 0 none 0 0 0 0 none 0 0), .bool false]) rfl (.inl ⟨by rfl, ?_⟩) ?_
      · intro w9 hSw
        try dsimp only at hSw
        exact ex_look 89 (.tmp 33) (.tmp 34) true rfl _ _ _ rfl rfl (look_no _ w.heap.size lst i s _ (zero_item _) hSw.2.2.1 HL.out)
      try simp only [Act.put, gA, gS, gZ, sA, sZ, sS]
      refine tk 6 (.tuple #[.agg (itC 0 0 ⟨#[]⟩ 0 0 none 0 0 none 0 0 none 0 0 0 0 none 0 0), .bool false]) rfl (.inl ⟨by rfl, ?_⟩) ?_
      · intro w9 hSw
        try dsimp only at hSw
        go_simp
        all_goals try decide
        all_goals try assumption
        all_goals try omega
      try simp only [Act.put, gA, gS, gZ, sA, sZ, sS]
      refine tk 7 (.agg (itC 0 0 ⟨#[]⟩ 0 0 none 0 0 none 0 0 none 0 0 0 0 none 0 0)) rfl (.inl ⟨by rfl, ?_⟩) ?_
      · intro w9 hSw
        try dsimp only at hSw
        go_simp
        all_goals try decide
        all_goals try assumption
        all_goals try omega
      try simp only [Act.put, gA, gS, gZ, sA, sZ, sS]
      refine tk 8 (.bool false) rfl (.inl ⟨by rfl, ?_⟩) ?_
      · intro w9 hSw
        try dsimp only at hSw
        go_simp
        all_goals try decide
        all_goals try assumption
        all_goals try omega
      try simp only [Act.put, gA, gS, gZ, sA, sZ, sS]
      refine wpAnyH_ready (rs := [9]) (by kernel_rfl) (by simp) ?_
      refine AllReadyH.cons rfl (fun K' hK => ?_) AllReadyH.nil
      rw [if_pos (by rfl)]
      simp only [gA, gS, gZ]
      go_wp2_with fail
      refine hK.out _ _ (⟨Below.al hHeld.1 _, ext11 hHeld.2.1, hHeld.2.2.1.next (Below.al (Below.refl _ _) _), ext11 hHeld.2.2.2.1, ext11 hHeld.2.2.2.2⟩) (fun hHeld => ?_)
      clear hK K'
      try simp only [Act.put, gA, gS, gZ, sA, sZ, sS]
      refine wpAnyH_ready (rs := [10]) (by kernel_rfl) (by simp) ?_
      refine AllReadyH.cons rfl (fun K' hK => ?_) AllReadyH.nil
      rw [if_pos (by rfl)]
      simp only [gA, gS, gZ]
      refine wp_store_by 95 _ _ rfl ⟨W3.heap.size, 0, none⟩ _ rfl rfl (storeI _ _ _ 0 0 ⟨#[]⟩ 0 0 none 0 0 none 0 0 none 0 0 0 0 none 0 0 _ (at11 _ (.cells (itC 0 0 ⟨#[]⟩ 0 0 none 0 0 none 0 0 none 0 0 0 0 none 0 0) 95) _ (by simp)) rfl) ?_
      refine hK.out _ _ (⟨below_setRow hHeld.1 S3.out _, (setRow_other _ _ _ _ (by omega)).trans hHeld.2.1, hHeld.2.2.1.kp (Kp.row (S := [W3.heap.size]) (Kp.refl _ _) _ _ (.inl (by simp))) (by simp; omega), (setRow_other _ _ _ _ (by omega)).trans hHeld.2.2.2.1, (setRow_other _ _ _ _ (by omega)).trans hHeld.2.2.2.2⟩) (fun hHeld => ?_)
      clear hK K'
      try simp only [Act.put, gA, gS, gZ, sA, sZ, sS]
      refine tk 11 (.bool false) rfl (.inl ⟨by rfl, ?_⟩) ?_
      · intro w9 hSw
        try dsimp only at hSw
        go_simp
        all_goals try decide
        all_goals try assumption
        all_goals try omega
      try simp only [Act.put, gA, gS, gZ, sA, sZ, sS]
      refine wpAnyH_done (by kernel_rfl) ?_ _
      obtain ⟨W5, HW5⟩ : ∃ W5, Hid ((W3.alloc (.cells (itC 0 0 ⟨#[]⟩ 0 0 none 0 0 none 0 0 none 0 0 0 0 none 0 0) 95)).drew.setRow W3.heap.size (itC 0 0 ⟨#[]⟩ 0 0 none 0 0 none 0 0 none 0 0 0 0 none 0 0) = W5) := ⟨_, rfl⟩
      have B5 : Hid (Below wr.heap.size wr W5) := by show Below _ _ _; rw [← HW5.out]; exact hHeld.1
      have P5 : Hid (W5.heap[w.heap.size + 1]? = some (.cells #[.map (some w.heap.size), .int .i64 0] 91 (0, 0))) := by show _ = _; rw [← HW5.out]; exact hHeld.2.1
      have M5 : Hid (IsM W5 w.heap.size lst) := by show IsM _ _ _; rw [← HW5.out]; exact hHeld.2.2.1
      have E5 : Hid (W5.heap[wr.heap.size]? = some (.cells (enC i s nm t rt d ld cd l ll cl h lh ch tg gr) 52 (0, 0))) := by show _ = _; rw [← HW5.out]; exact hHeld.2.2.2.1
      have L5 : Hid (W5.heap[w2.heap.size]? = some (.cells #[.int .u16 i, .int .u8 s] 43 (0, 0))) := by show _ = _; rw [← HW5.out]; exact hHeld.2.2.2.2
      rw [show (W3.alloc _).drew.setRow W3.heap.size _ = W5 from HW5.out]
      clear hHeld HW5
      have BWR : Hid (∀ x, Kp [w.heap.size] W5 x → Below w.heap.size w x) := fun x hx => Kp.below (Below.andThen BR.out B5.out) hx (by have := BR.out.size; have := B5.out.size; omega) (by simp)
      go_wp2_with fail
      refine wp_region_held_drew (S := fun x => Kp [w.heap.size] W5 x) (by kernel_rfl) (Kp.drew (Kp.refl _ _)) (fun hHeld => ?_)
      refine tk 0 (.pointer (some ⟨w.heap.size + 1, 0, none⟩)) rfl (.inl ⟨by rfl, ?_⟩) ?_
      · intro w9 hSw
        try dsimp only at hSw
        go_simp
        all_goals try decide
        all_goals try assumption
        all_goals try omega
      try simp only [Act.put, gA, gS, gZ, sA, sZ, sS]
      refine tk 1 (.pointer (some ⟨w.heap.size + 1, 0, none⟩)) rfl (.inl ⟨by rfl, ?_⟩) ?_
      · intro w9 hSw
        try dsimp only at hSw
        go_simp
        all_goals try decide
        all_goals try assumption
        all_goals try omega
      try simp only [Act.put, gA, gS, gZ, sA, sZ, sS]
      refine tk 2 (.pointer (some ⟨w.heap.size + 1, 0, none⟩)) rfl (.inl ⟨by rfl, ?_⟩) ?_
      · intro w9 hSw
        try dsimp only at hSw
        go_simp
        all_goals try decide
        all_goals try assumption
        all_goals try omega
      try simp only [Act.put, gA, gS, gZ, sA, sZ, sS]
      refine tk 3 (.map (some w.heap.size)) rfl (.inl ⟨by rfl, ?_⟩) ?_
      · intro w9 hSw
        try dsimp only at hSw
        have c0 : w9.cell? ⟨w.heap.size + 1, 0, none⟩ = some (.map (some w.heap.size)) := by rw [cell_of_row _ _ 0 _ _ _ (hSw.at (by simp) P5.out)]; rfl
        go_simp
        all_goals try assumption
      try simp only [Act.put, gA, gS, gZ, sA, sZ, sS]
      refine tk 4 (plV i s) rfl (.inl ⟨by rfl, ?_⟩) ?_
      · intro w9 hSw
        try dsimp only at hSw
        exact ex_load11 43 (.tmp 7) rfl _ _ rfl (load_part 43 2 sizeP aggP _ (w2.heap.size) 0 [.int .u16 i, .int .u8 s] _ (hSw.at (by simp; omega) L5.out) (by simp))
      try simp only [Act.put, gA, gS, gZ, sA, sZ, sS]
      refine tk 5 (.agg (enC i s nm t rt d ld cd l ll cl h lh ch tg gr)) rfl (.inl ⟨by rfl, ?_⟩) ?_
      · intro w9 hSw
        try dsimp only at hSw
        exact ex_load11 52 (.tmp 6) rfl _ _ rfl (loadE _ _ i s nm t rt d ld cd l ll cl h lh ch tg gr _ (hSw.at (by simp; omega) E5.out))
      try simp only [Act.put, gA, gS, gZ, sA, sZ, sS]
      refine tk 7 (.agg (enC i s nm t rt d ld cd l ll cl h lh ch tg gr)) rfl (.inl ⟨by rfl, ?_⟩) ?_
      · intro w9 hSw
        try dsimp only at hSw
        exact ex_load11 52 (.tmp 6) rfl _ _ rfl (loadE _ _ i s nm t rt d ld cd l ll cl h lh ch tg gr _ (hSw.at (by simp; omega) E5.out))
      try simp only [Act.put, gA, gS, gZ, sA, sZ, sS]
      refine wpAnyH_ready (rs := [6]) (by kernel_rfl) (by simp) ?_
      refine AllReadyH.cons rfl (fun K' hK => ?_) AllReadyH.nil
      rw [if_pos (by rfl)]
      simp only [gA, gS, gZ]
      go_wp2_with fail
      refine (HCO.out _ (BWR.out _ hHeld)).mono ?_
      rintro e w6 ⟨a1, c1, a2, c2, a3, c3, rfl, t1, t2, t3, hb6⟩
      have T1 : Hid (Told _ w6 a1 ld c1 zd) := t1
      have T2 : Hid (Told _ w6 a2 ll c2 zl) := t2
      have T3 : Hid (Told _ w6 a3 lh c3 zh) := t3
      have N6 : Hid (Below W5.drew.heap.size W5.drew w6) := hb6
      clear t1 t2 t3
      try go_wp2_with fail
      refine hK.out _ _ (hHeld.trans (Kp.of hb6)) (fun hHeld => ?_)
      clear hK K'
      try simp only [Act.put, gA, gS, gZ, sA, sZ, sS]
      refine wpAnyH_ready (rs := [8]) (by kernel_rfl) (by simp) ?_
      refine AllReadyH.cons rfl (fun K' hK => ?_) AllReadyH.nil
      rw [if_pos (by rfl)]
      simp only [gA, gS, gZ]
      go_wp2_with fail
      refine (HFI.out _ (BWR.out _ hHeld)).mono ?_
      rintro e w7 ⟨af, nf, cf, rfl, hqf, hb7⟩
      have QF : Hid (SlOk w7 af nf cf (firstL t zd)) := hqf
      have N7 : Hid (Below w6.heap.size w6 w7) := hb7
      clear hqf
      try go_wp2_with fail
      refine hK.out _ _ (hHeld.trans (Kp.of hb7)) (fun hHeld => ?_)
      clear hK K'
      try simp only [Act.put, gA, gS, gZ, sA, sZ, sS]
      refine wpAnyH_ready (rs := [9]) (by kernel_rfl) (by simp) ?_
      refine AllReadyH.cons rfl (fun K' hK => ?_) AllReadyH.nil
      rw [if_pos (by rfl)]
      simp only [gA, gS, gZ]
      go_wp2_with fail
      refine (clone8_any af nf cf _ _ QF.out.row (NF QF.out)).mono ?_
      rintro e w8 ⟨⟨av, cv, rfl, htv⟩, hb8⟩
      have TV : Hid (Told w7 w8 av nf cv (firstL t zd)) := htv
      have N8 : Hid (Below w7.heap.size w7 w8) := hb8
      clear htv
      try go_wp2_with fail
      refine hK.out _ _ (hHeld.trans (Kp.of hb8)) (fun hHeld => ?_)
      clear hK K'
      try simp only [Act.put, gA, gS, gZ, sA, sZ, sS]
      refine tk 10 (.agg (itC i s nm t rt a1 ld c1 a2 ll c2 a3 lh c3 tg gr av nf cv)) rfl (.inl ⟨by rfl, ?_⟩) ?_
      · intro w9 hSw
        try dsimp only at hSw
        go_simp
        all_goals try decide
        all_goals try assumption
        all_goals try omega
      try simp only [Act.put, gA, gS, gZ, sA, sZ, sS]
      refine wpAnyH_ready (rs := [11]) (by kernel_rfl) (by simp) ?_
      refine AllReadyH.cons rfl (fun K' hK => ?_) AllReadyH.nil
      rw [if_pos (by rfl)]
      simp only [gA, gS, gZ]
      have M8 : Hid (IsM w8 w.heap.size lst) := (((show IsM W5.drew w.heap.size lst from M5.out).next N6.out).next N7.out).next N8.out
      obtain ⟨w9, hrun, hM9, hK9⟩ := upd_run w8 w.heap.size lst i s (.agg (itC i s nm t rt a1 ld c1 a2 ll c2 a3 lh c3 tg gr av nf cv)) M8.out
      have M9 : Hid (IsM w9 w.heap.size (putP lst i s (.agg (itC i s nm t rt a1 ld c1 a2 ll c2 a3 lh c3 tg gr av nf cv)))) := hM9
      have K9 : Hid (Kp [w.heap.size] w8 w9) := hK9
      have K59 : Hid (Kp [w.heap.size] W5 w9) := hHeld.trans hK9
      refine wp_upd_by 89 _ _ _ rfl _ _ _ rfl rfl rfl hrun ?_
      refine hK.out _ _ (K59.out) (fun hHeld => ?_)
      clear hK K'
      try simp only [Act.put, gA, gS, gZ, sA, sZ, sS]
      refine wpAnyH_done (by kernel_rfl) ?_ _
      have BU9 : Hid (Built w9 (w.heap.size + 2) (es.take (k + 1)) (lst ++ [(i, s, .agg (itC i s nm t rt a1 ld c1 a2 ll c2 a3 lh c3 tg gr av nf cv))])) := by
        show Built _ _ _ _
        rw [HTK.out]
        have s5 : w.heap.size + 2 ≤ W5.heap.size := by have := B5.out.size; omega
        have s6 : w.heap.size + 2 ≤ w6.heap.size := Nat.le_trans s5 N6.out.size
        have s7 : w.heap.size + 2 ≤ w7.heap.size := Nat.le_trans s6 N7.out.size
        have hS : ∀ {x : World}, ∀ b ∈ [w.heap.size], b < w.heap.size + 2 ∨ x.heap.size ≤ b := fun b hb => by simp at hb; omega
        have n69 : Kp [w.heap.size] w6 w9 := ((Kp.of N7.out).trans (Kp.of N8.out)).trans K9.out
        refine (BUR.out.kp ((Kp.of B5.out).trans K59.out) hS).snoc _ _ ⟨a1, c1, a2, c2, a3, c3, av, nf, cv, rfl, ?_, ?_, ?_, ?_⟩
        · exact (T1.out.kept s5).kp n69 hS
        · exact (T2.out.kept s5).kp n69 hS
        · exact (T3.out.kept s5).kp n69 hS
        · exact (TV.out.kept s7).kp K9.out hS
      have P9 : Hid (w9.heap[w.heap.size + 1]? = some (.cells #[.map (some w.heap.size), .int .i64 0] 91 (0, 0))) := K59.out.at (by simp) P5.out
      have M9' : Hid (IsM w9 w.heap.size (lst ++ [(i, s, .agg (itC i s nm t rt a1 ld c1 a2 ll c2 a3 lh c3 tg gr av nf cv))])) := by show IsM _ _ _; rw [← look_put HL.out]; exact M9.out
      have B9 : Hid (Below w.heap.size w w9) := BWR.out _ K59.out
      clear hHeld
      go_wp2_with fail
      first
        | exact ⟨⟨k + 1, by have := HK.out; omega, by go_num, HG9, B9.out, P9.out, _, M9'.out, BU9.out⟩, by have := HK.out; simp [intOf]; omega⟩
        | (refine ⟨?_, ?_⟩
           · (repeat apply Exists.intro)
             refine ⟨?_, rfl⟩
             exact ⟨k + 1, by have := HK.out; omega, by go_num, HG9, B9.out, P9.out, _, M9'.out, BU9.out⟩
           · have := HK.out; simp [intOf]; omega)
    · obtain rfl : k = N := by omega
      go_wp2_with fail
      go_ret2
      have C0 : newC es = 0 := by rw [HG.out, List.drop_of_length_le (by have := HN.out; omega)]; rfl
      refine Or.inl ⟨C0, lst, rfl, BR.out, PR.out, MR.out, ?_⟩
      have := BUR.out
      rwa [List.take_of_length_le (by have := HN.out; omega)] at this
end Go.Proofs.YtajllkkbgpijiaaGreatDoor
namespace Go.Proofs.YtajllkkbgpijiaaGreatDoor
open Go.RowKit

/-- Does an entry stand ahead of another? -/
def befE (x e : Em) : Bool := befB x.i x.s e.i e.s
theorem befE_iff (x e : Em) : befE x e = true ↔ (x.i < e.i ∨ (x.i = e.i ∧ x.s < e.s)) := by simp [befE, befB]
theorem befE_trans {a b c : Em} (h : befE a b = true) (k : befE b c = true) : befE a c = true := by
  rw [befE_iff] at *; omega
/-- Where an entry belongs in a row in order. -/
def posE (S : List Em) (e : Em) : Nat := (S.takeWhile (befE · e)).length
/-- Does one stand there already? -/
def twiE (S : List Em) (e : Em) : Bool := match S[posE S e]? with
  | some x => !befE e x
  | none => false
def insE (S : List Em) (e : Em) : List Em := S.take (posE S e) ++ e :: S.drop (posE S e)
/-- The code that the document's New tells, and the row in order. -/
def docG : List Em → List Em → Int × List Em
  | S, [] => (0, S)
  | S, e :: r => if mayE e = false then (80, S) else if twiE S e = true then (6, S) else docG (insE S e) r
theorem docG_step (S es : List Em) (k : Nat) (e : Em) (h : es[k]? = some e) : docG S (es.drop k) = if mayE e = false then (80, S) else if twiE S e = true then (6, S) else docG (insE S e) (es.drop (k + 1)) := by
  obtain ⟨hk, he⟩ := List.getElem?_eq_some_iff.1 h
  rw [List.drop_eq_getElem_cons hk, he]
  rfl
theorem pos_ahead (e : Em) : ∀ (S : List Em) (k : Nat) (x : Em), k < posE S e → S[k]? = some x → befE x e = true
  | [], k, x, h, hx => by simp at hx
  | y :: S, k, x, h, hx => by
    unfold posE at h
    rw [List.takeWhile_cons] at h
    by_cases hy : befE y e = true
    · rw [if_pos hy] at h
      match k with
      | 0 => simp at hx; rw [← hx]; exact hy
      | k + 1 => exact pos_ahead e S k x (by unfold posE; simpa using h) (by simpa using hx)
    · rw [if_neg hy] at h
      simp at h
theorem pos_here (e : Em) : ∀ (S : List Em) (x : Em), S[posE S e]? = some x → befE x e = false
  | [], x, hx => by simp at hx
  | y :: S, x, hx => by
    unfold posE at hx
    rw [List.takeWhile_cons] at hx
    by_cases hy : befE y e = true
    · rw [if_pos hy] at hx
      exact pos_here e S x (by unfold posE; simpa using hx)
    · rw [if_neg hy] at hx
      simp at hx
      rw [← hx]; simpa using hy
theorem pos_le (S : List Em) (e : Em) : posE S e ≤ S.length := (List.takeWhile_sublist _).length_le
def SortE (S : List Em) : Prop := S.Pairwise fun a b => befE a b = true
theorem twi_any {S : List Em} (hS : SortE S) (e : Em) : twiE S e = S.any fun x => e.i == x.i && e.s == x.s := by
  rw [Bool.eq_iff_iff]
  constructor
  · intro h
    unfold twiE at h
    split at h
    · rename_i x hx
      have h1 := pos_here e S x hx
      have h2 : befE e x = false := by simpa using h
      rw [List.any_eq_true]
      refine ⟨x, List.mem_of_getElem? hx, ?_⟩
      have n1 : ¬ befE x e = true := by simp [h1]
      have n2 : ¬ befE e x = true := by simp [h2]
      rw [befE_iff] at n1 n2
      simp
      omega
    · cases h
  · intro h
    rw [List.any_eq_true] at h
    obtain ⟨x, hx, hp⟩ := h
    have hp' : e.i = x.i ∧ e.s = x.s := by simpa using hp
    obtain ⟨k, hk, he⟩ := List.getElem_of_mem hx
    have hkx : S[k]? = some x := by rw [List.getElem?_eq_getElem hk, he]
    have n1 : ¬ befE x e = true := by rw [befE_iff]; omega
    have n2 : ¬ befE e x = true := by rw [befE_iff]; omega
    have hge : posE S e ≤ k := by
      by_cases hlt : k < posE S e
      · exact absurd (pos_ahead e S k x hlt hkx) n1
      · omega
    have hpl : posE S e < S.length := by omega
    have hy : S[posE S e]? = some S[posE S e] := List.getElem?_eq_getElem hpl
    have h3 := pos_here e S _ hy
    by_cases heq : posE S e = k
    · unfold twiE
      rw [heq, hkx]
      simpa using n2
    · have hlt : posE S e < k := by omega
      have := List.pairwise_iff_getElem.1 hS (posE S e) k hpl hk hlt
      rw [he] at this
      have n3 : ¬ befE S[posE S e] e = true := by simp [h3]
      rw [befE_iff] at this n3
      omega
theorem ins_sorted {S : List Em} (hS : SortE S) {e : Em} (h : twiE S e = false) : SortE (insE S e) := by
  have hd : ∀ x ∈ S.drop (posE S e), befE e x = true := by
    intro x hx
    obtain ⟨k, hk, he⟩ := List.getElem_of_mem hx
    rw [List.length_drop] at hk
    have hpl : posE S e < S.length := by omega
    have hy : S[posE S e]? = some S[posE S e] := List.getElem?_eq_getElem hpl
    have h1 : befE e S[posE S e] = true := by
      unfold twiE at h
      rw [hy] at h
      simpa using h
    rw [List.getElem_drop] at he
    by_cases hk0 : k = 0
    · subst hk0
      rw [← he]; exact h1
    · have := List.pairwise_iff_getElem.1 hS (posE S e) (posE S e + k) hpl (by omega) (by omega)
      rw [he] at this
      exact befE_trans h1 this
  have ht : ∀ x ∈ S.take (posE S e), befE x e = true := by
    intro x hx
    obtain ⟨k, hk, he⟩ := List.getElem_of_mem hx
    rw [List.length_take] at hk
    rw [List.getElem_take] at he
    exact pos_ahead e S k x (by omega) (by rw [List.getElem?_eq_getElem (by omega), he])
  unfold SortE insE
  rw [List.pairwise_append, List.pairwise_cons]
  refine ⟨List.Pairwise.sublist (List.take_sublist _ _) hS, ⟨hd, List.Pairwise.sublist (List.drop_sublist _ _) hS⟩, ?_⟩
  intro a ha b hb
  rcases List.mem_cons.1 hb with rfl | hb
  · exact ht a ha
  · exact befE_trans (ht a ha) (hd b hb)
theorem ins_mem (S : List Em) (e x : Em) : x ∈ insE S e ↔ x = e ∨ x ∈ S := by
  unfold insE
  rw [List.mem_append, List.mem_cons]
  conv => rhs; rw [← List.take_append_drop (posE S e) S, List.mem_append]
  constructor
  · rintro (h | h | h)
    · exact .inr (.inl h)
    · exact .inl h
    · exact .inr (.inr h)
  · rintro (h | h | h)
    · exact .inr (.inl h)
    · exact .inl h
    · exact .inr (.inr h)
theorem ins_len (S : List Em) (e : Em) : (insE S e).length = S.length + 1 := by
  unfold insE
  have := pos_le S e
  rw [List.length_append, List.length_cons, List.length_take, List.length_drop]; omega
/-- The two tell the same code. -/
theorem docG_code : ∀ (r S a : List Em), SortE S → (∀ x, x ∈ S ↔ x ∈ a) → (docG S r).1 = newG a r
  | [], _, _, _, _ => rfl
  | e :: r, S, a, hS, hm => by
    unfold docG newG
    by_cases h1 : mayE e = false
    · rw [if_pos h1, if_pos h1]
    · rw [if_neg h1, if_neg h1]
      have e2 : twiE S e = a.any fun x => e.i == x.i && e.s == x.s := by
        rw [twi_any hS, Bool.eq_iff_iff, List.any_eq_true, List.any_eq_true]
        constructor
        · rintro ⟨x, hx, hp⟩; exact ⟨x, (hm x).1 hx, hp⟩
        · rintro ⟨x, hx, hp⟩; exact ⟨x, (hm x).2 hx, hp⟩
      rw [← e2]
      by_cases h2 : twiE S e = true
      · rw [if_pos h2, if_pos h2]
      · rw [if_neg h2, if_neg h2]
        refine docG_code r (insE S e) (a ++ [e]) (ins_sorted hS (by simpa using h2)) fun x => ?_
        rw [ins_mem, List.mem_append, List.mem_singleton, hm x]
        exact ⟨fun h => h.elim .inr .inl, fun h => h.elim .inr .inl⟩
/-- What is there behind it. -/
theorem docG_row : ∀ (r S : List Em), SortE S → (docG S r).1 = 0 → SortE (docG S r).2 ∧ (∀ x, x ∈ (docG S r).2 ↔ x ∈ S ∨ x ∈ r) ∧ (docG S r).2.length = S.length + r.length
  | [], S, hS, _ => ⟨hS, fun x => by simp [docG], by simp [docG]⟩
  | e :: r, S, hS, h => by
    unfold docG at h ⊢
    by_cases h1 : mayE e = false
    · rw [if_pos h1] at h; cases h
    · rw [if_neg h1] at h ⊢
      by_cases h2 : twiE S e = true
      · rw [if_pos h2] at h; cases h
      · rw [if_neg h2] at h ⊢
        obtain ⟨q1, q2, q3⟩ := docG_row r (insE S e) (ins_sorted hS (by simpa using h2)) h
        refine ⟨q1, fun x => ?_, by rw [q3, ins_len, List.length_cons]; omega⟩
        rw [q2, ins_mem, List.mem_cons]
        constructor
        · rintro ((h | h) | h)
          · exact .inr (.inl h)
          · exact .inl h
          · exact .inr (.inr h)
        · rintro (h | h | h)
          · exact .inl (.inr h)
          · exact .inl (.inl h)
          · exact .inr h
#print axioms docG_row
end Go.Proofs.YtajllkkbgpijiaaGreatDoor
namespace Go.Proofs.YtajllkkbgpijiaaGreatDoor
open Go.RowKit

theorem flx_one_cell (ys : List Xi) : ∀ u ∈ flx ys, u.oneCell' = true := fun u hu => by
  obtain ⟨z, _, hz⟩ := List.mem_flatMap.1 hu
  simp [Xi.L] at hz
  rcases hz with rfl | rfl | rfl | rfl | rfl | rfl | rfl | rfl | rfl | rfl | rfl <;> rfl
/-- Values put behind those of a row of its own. -/
theorem wpList_append_items {ops : Array Oper} {rest : List Oper} {o : Oper} {a : Act} {w : World} {Q : Exit → Act → World → Prop} (hgd : o.guard = none) (s x : Operand)
    (ho : o.op = .call { callee := .builtin .append, args := #[s, x], argTypes := #[82, 82] }) (base : Nat) (v : Value) (l : List Xi) (hs : a.eval s = v) (hown : IsX w base v l)
    (sa : Option Addr) (k capk : Nat) (ys : List Xi) (hx : a.eval x = .slice sa k capk) (hk : ys.length = k) (hnews : 0 < k → ∃ ad, sa = some ad ∧ ∀ j u, (flx ys)[j]? = some u → w.cell? (ad.add j) = some u) (h63 : l.length ≤ 1000000) (hk6 : k ≤ 1000000) (hbase : base ≤ w.heap.size)
    (h : ∀ v' w', IsX w' base v' (l ++ ys) → w.grownBy w' v.ownBlock → (∀ j, v'.ownBlock = some j → v.ownBlock = some j ∨ j = w.heap.size) → wpList Tryz.prog ops Q rest (a.put o.dst v') w') : wpList Tryz.prog ops Q (o :: rest) a w := by
  obtain ⟨i0, hi, hz0, hz1, hz2⟩ := info_parts infoX
  by_cases h0 : k = 0
  · subst h0
    have hm : ys = [] := List.eq_nil_of_length_eq_zero hk
    subst hm
    have src : Src Tryz.prog i0.size 82 (.slice sa 0 capk) 0 [] w := by
      cases sa with
      | none => exact Src.ofNil w Tryz.underlying82 capk
      | some z => exact Src.ofSlice w Tryz.underlying82 z 0 capk [] (by simp) (fun j u hu => by simp at hu) (fun u hu => by simp at hu)
    obtain ⟨va, vn, vc, hv, hle⟩ : ∃ va vn vc, v = .slice va vn vc ∧ vn ≤ vc := by
      rcases hown.form with ⟨h1, _⟩ | ⟨g, cap, cur, hv, _, _, hn, _⟩
      · exact ⟨none, 0, 0, h1, Nat.le_refl _⟩
      · exact ⟨_, _, _, hv, hn⟩
    have hrun := run_append_nothing (P := Tryz.prog) w 82 82 o.type 86 i0 Tryz.underlying82 hi va vn vc hle _ src
    rw [← hv] at hrun
    refine wpList_plain hgd fun K hK => ?_
    unfold Oper.wp
    simp [execOp, ho, resolve, invoke, builtin, hs, hx, hrun, Result.andThen]
    exact hK _ _ (h v w (by rw [List.append_nil]; exact hown) ⟨rfl, rfl, rfl, Nat.le_refl _, fun _ _ _ => rfl⟩ fun j hj => .inl hj)
  · obtain ⟨ad, rfl, hn⟩ := hnews (by omega)
    refine wpList_append_lies (P := Tryz.prog) w hgd s x 82 ho base 86 i0 _ 11 136 Tryz.underlying82 hi hz0 hz1 hz2 rfl (by decide) v l.length _ hs hown ad k capk (flx ys) hx (by rw [flx_len, hk]) hn (flx_one_cell ys) (by omega) (by unfold maxLen; omega) (by omega) hbase _ rfl ?_
    intro g9 cap9 w' h1 h2 h3 _
    refine h _ w' ?_ h2 (fun j hj => by cases hj; exact h3)
    show w'.ownsRow base 86 11 _ (l ++ ys).length (flx (l ++ ys))
    rw [flx_app, List.length_append, hk]
    exact h1
/-- The first ones of a row, as a slice of it has them. -/
theorem IsX.news {w : World} {base g cap : Nat} {l : List Xi} (h : IsX w base (.slice (some ⟨g, 0, none⟩) l.length cap) l) (o n : Nat) (hn : o + n ≤ l.length) : ∀ j u, (flx ((l.drop o).take n))[j]? = some u → w.cell? ((⟨g, o * 11, none⟩ : Addr).add j) = some u := by
  intro j u hu
  rcases h.form with ⟨h1, _⟩ | ⟨g', cap', cur, hv, _, hh, hnn, _, hs, ht⟩
  · cases h1
  · cases hv
    have hj : j < n * 11 := by
      have := (List.getElem?_eq_some_iff.1 hu).1
      rw [flx_len, List.length_take, List.length_drop] at this
      have e : min n (l.length - o) = n := by omega
      rw [e] at this; exact this
    rw [show (⟨g, o * 11, none⟩ : Addr).add j = ⟨g, o * 11 + j, none⟩ from by simp [Addr.add], cell_of_row w g _ _ _ _ hh]
    have e1 : l = l.take o ++ ((l.drop o).take n ++ (l.drop o).drop n) := by rw [List.take_append_drop, List.take_append_drop]
    have e2 : flx l = flx (l.take o) ++ (flx ((l.drop o).take n) ++ flx ((l.drop o).drop n)) := by
      conv => lhs; rw [e1]
      rw [flx_app, flx_app]
    have l1 : (flx (l.take o)).length = o * 11 := by rw [flx_len, List.length_take]; congr 1; omega
    have l2 : (flx ((l.drop o).take n)).length = n * 11 := by rw [flx_len, List.length_take, List.length_drop]; congr 1; omega
    have e3 : (flx l)[o * 11 + j]? = some u := by
      rw [e2, List.getElem?_append_right (by omega), l1, Nat.add_sub_cancel_left, List.getElem?_append_left (by omega)]
      exact hu
    have hlt : o * 11 + j < l.length * 11 := by
      have : (o + n) * 11 ≤ l.length * 11 := Nat.mul_le_mul_right _ hn
      omega
    rw [← Array.getElem?_toList]
    have e4 : (cur.toList.take (l.length * 11))[o * 11 + j]? = some u := by rw [ht]; exact e3
    rw [List.getElem?_take_of_lt hlt] at e4
    exact e4
#print axioms wpList_append_items
#print axioms IsX.news
end Go.Proofs.YtajllkkbgpijiaaGreatDoor
namespace Go.Proofs.YtajllkkbgpijiaaGreatDoor
open Go.RowKit

set_option linter.unusedSimpArgs false in
set_option maxHeartbeats 4000000 in
set_option maxRecDepth 100000 in
theorem own_kept (a : Option Addr) (len cap : Nat) (zs : List Int) (w : World) (hr : Row w a len zs) (hl : len ≤ 16777216) :
    Calls Tryz.prog 62 #[.slice a len cap] w fun e w' => ∃ a' c', e = .returned (.slice a' len c') ∧ Kept w' w.heap.size a' len c' zs ∧ Below w.heap.size w w' := by
  have HR : Hid (∀ W, Below w.heap.size w W → Row W a len zs) := fun W hb => hr.next hb
  clear hr
  go_enter Tryz.func62, Tryz.ntmps62
  go_wp2_with (at_builtin; refine wpList_append_nil rfl _ _ rfl rfl a len cap zs rfl (HR.out _ (by repeat (first | exact Below.refl _ _ | apply Below.drew | apply Below.al))) (by omega) ?_)
  intro a' c' w1 h1 h2 h3 h4 h5
  have S1 : Hid (Kept w1 w.heap.size a' len c' zs) := ⟨⟨h3, h1, h2⟩, fun _ b off e => by have q := (h4 b off e).1; first | omega | (simp at q; omega)⟩
  have B1 : Hid (Below w.heap.size w w1) := h5
  clear h1 h2 h3 h4 h5
  go_wp2_with fail
  go_ret
  exact ⟨a', c', rfl, S1.out, B1.out⟩
set_option linter.unusedSimpArgs false in
set_option maxHeartbeats 4000000 in
set_option maxRecDepth 100000 in
theorem zero_kept (t : Int) (w : World) : Calls Tryz.prog 63 #[.int .u8 t] w fun e w' => ∃ a n c, e = .returned (.slice a n c) ∧ Kept w' w.heap.size a n c (Ty.zeros (Ty.Pl.sizeN t).toNat) ∧ Below w.heap.size w w' := by
  have hb := Ty.Pl.size_bd t
  obtain ⟨n, hn⟩ : ∃ n : Nat, Hid (Ty.Pl.sizeN t = (n : Int)) := ⟨(Ty.Pl.sizeN t).toNat, by show _ = _; omega⟩
  have hmk := fun W => Ty.make_run n (by have := hn.out; omega) W
  have HZ : Hid ((Ty.Pl.sizeN t).toNat = n) := by show _ = _; rw [hn.out]; simp
  have hn8 : n ≤ 8 := by have := hn.out; omega
  rw [HZ.out]
  clear hb
  go_enter Tryz.func63, Tryz.ntmps63
  go_wp2_with fail
  refine (Ty.refSize_any _ _).mono ?_
  rw [hn.out]
  rintro e x ⟨rfl, rfl⟩
  go_wp2_with fail
  go_ret
  exact ⟨_, n, n, rfl, ⟨⟨Row.un (Ty.row_made _ n _), Nat.le_refl _, by unfold maxLen; omega⟩, fun _ b off e => by cases e; first | exact Nat.le_refl _ | (simp; try omega)⟩, (by repeat (first | exact Below.refl _ _ | apply Below.drew | apply Below.al))⟩
set_option linter.unusedSimpArgs false in
set_option maxHeartbeats 4000000 in
set_option maxRecDepth 100000 in
theorem first_kept (i s : Int) (nm : ByteArray) (t rt : Int) (d : Option Addr) (ld cd : Nat) (l : Option Addr) (ll cl : Nat) (h : Option Addr) (lh ch : Nat) (tg gr : Int) (zd : List Int) (w : World) (rd : SlOk w d ld cd zd) (hld : ld ≤ 16777216) : Calls Tryz.prog 44 #[.agg (enC i s nm t rt d ld cd l ll cl h lh ch tg gr)] w fun e w' => ∃ a n c, e = .returned (.slice a n c) ∧ Kept w' w.heap.size a n c (firstL t zd) ∧ Below w.heap.size w w' := by
  have hs := rd.row.size
  have RD : Hid (SlOk w d ld cd zd) := rd
  clear rd
  rcases Nat.eq_zero_or_pos ld with h0 | hp
  · subst h0
    have HF : Hid (firstL t zd = Ty.zeros (Ty.Pl.sizeN t).toNat) := if_neg (by omega)
    clear hs
    rw [HF.out]
    go_enter Tryz.func44, Tryz.ntmps44
    go_wp2_with fail
    refine (zero_kept t _).mono ?_
    rintro e w1 ⟨a, n, c, rfl, hq, hb⟩
    have HQ : Hid (Kept w1 w.heap.size a n c (Ty.zeros (Ty.Pl.sizeN t).toNat)) := ⟨hq.1, fun hl b off e => by have q := hq.2 hl b off e; first | exact q | (simp at q; omega)⟩
    have HB : Hid (Below w.heap.size w w1) := Below.andThen (by repeat (first | exact Below.refl _ _ | apply Below.drew | apply Below.al)) hb
    clear hq hb
    go_wp2_with fail
    go_ret
    exact ⟨a, n, c, rfl, HQ.out, HB.out⟩
  · have HF : Hid (firstL t zd = zd) := if_pos (by omega)
    have hp' : 0 < (ld : Int) := by omega
    have HO : Hid (∀ W, Below w.heap.size w W → Calls Tryz.prog 62 #[.slice d ld cd] W fun e w' => ∃ a' c', e = .returned (.slice a' ld c') ∧ Kept w' W.heap.size a' ld c' zd ∧ Below W.heap.size W w') := fun W hW => own_kept d ld cd zd W (RD.out.row.next hW) hld
    clear hs
    rw [HF.out]
    go_enter Tryz.func44, Tryz.ntmps44
    go_wp2_with fail
    refine (HO.out _ (by repeat (first | exact Below.refl _ _ | apply Below.drew | apply Below.al))).mono ?_
    rintro e w1 ⟨a, c, rfl, hq, hb⟩
    have HQ : Hid (Kept w1 w.heap.size a ld c zd) := ⟨hq.1, fun hl b off e => by have q := hq.2 hl b off e; first | exact q | (simp at q; omega)⟩
    have HB : Hid (Below w.heap.size w w1) := Below.andThen (by repeat (first | exact Below.refl _ _ | apply Below.drew | apply Below.al)) hb
    clear hq hb
    go_wp2_with fail
    go_ret
    exact ⟨a, ld, c, rfl, HQ.out, HB.out⟩
/-- Bytes of their own stay, beside rows of items that grow. -/
theorem Kept.twice {z3 z4 w8 w9 : World} {lo : Nat} {a : Option Addr} {n c : Nat} {zs : List Int} (h : Kept z3 lo a n c zs) (h34 : Below z3.heap.size z3 z4) {r1 r2 : Option Nat} (hg2 : z4.grownBy w8 r1) (hg3 : w8.grownBy w9 r2) (hl1 : ∀ j, r1 = some j → j < lo) (hl2 : ∀ j, r2 = some j → r1 = some j ∨ j = z4.heap.size) : SlOk w9 a n c zs := by
  refine ⟨⟨h.1.row.size, h.1.row.oct, fun hl => ?_⟩, h.1.le, h.1.max⟩
  obtain ⟨b, off, e, hc⟩ := h.1.row.at_ hl
  refine ⟨b, off, e, fun i hi => ?_⟩
  have h1 := h.1.row.old hl b off e
  have h2 := h.2 hl b off e
  have s1 := h34.size
  have s2 := hg2.size
  have e1 := h34.block b h1
  have e2 := hg2.block b (by omega) (fun q => by have := hl1 b q.symm; omega)
  have e3 := hg3.block b (by omega) (fun q => by rcases hl2 b q.symm with q | q
                                                 · have := hl1 b q; omega
                                                 · omega)
  have e4 : w9.heap[b]? = z3.heap[b]? := e3.trans (e2.trans e1)
  rw [← hc i hi]
  simp only [World.cell?, e4]
/-- They lie in no row of items that grew beside them. -/
theorem Kept.off3 {z3 : World} {lo : Nat} {a : Option Addr} {n c : Nat} {zs : List Int} (h : Kept z3 lo a n c zs) {r1 r2 r3 : Option Nat} {N4 N8 : Nat} (h4 : z3.heap.size ≤ N4) (h8 : N4 ≤ N8) (hl1 : ∀ j, r1 = some j → j < lo) (hl2 : ∀ j, r2 = some j → r1 = some j ∨ j = N4) (hl3 : ∀ j, r3 = some j → r2 = some j ∨ j = N8) : 0 < n → ∀ b off, a = some ⟨b, off, none⟩ → r3 ≠ some b := fun hl b off e h3 => by
  have h1 := h.1.row.old hl b off e
  have h2 := h.2 hl b off e
  rcases hl3 b h3 with q | q
  · rcases hl2 b q with q | q
    · have := hl1 b q; omega
    · omega
  · omega
/-- An item of the document's, of an entry and its value. -/
def ofE (e : Em) (v : Option Addr) (n c : Nat) : Xi := ⟨e.i, e.s, e.nm, e.t, e.rt, e.d, e.ld, e.cd, e.l, e.ll, e.cl, e.h, e.lh, e.ch, e.tg, e.gr, v, n, c⟩
/-- The items are those of the entries, each with its first value. -/
def DocX (w : World) (xs : List Xi) (S : List Em) : Prop := xs.length = S.length ∧ ∀ (j : Nat) (e : Em), S[j]? = some e → ∃ v n c, xs[j]? = some (ofE e v n c) ∧ SlOk w v n c (firstL e.t e.zd)
theorem DocX.next {w W : World} {xs : List Xi} {S : List Em} (h : DocX w xs S) (hb : Below w.heap.size w W) : DocX W xs S :=
  ⟨h.1, fun j e he => by obtain ⟨v, n, c, h1, h2⟩ := h.2 j e he; exact ⟨v, n, c, h1, h2.next hb⟩⟩
theorem docX_ins {w W : World} {xs : List Xi} {S : List Em} {e : Em} {v : Option Addr} {n c : Nat} (h : DocX w xs S) (hb : Below w.heap.size w W) (hs : SlOk W v n c (firstL e.t e.zd)) : DocX W (xs.take (posE S e) ++ ofE e v n c :: xs.drop (posE S e)) (insE S e) := by
  have hp := pos_le S e
  have h1 := h.1
  refine ⟨by rw [ins_len, List.length_append, List.length_cons, List.length_take, List.length_drop]; omega, fun j x hx => ?_⟩
  unfold insE at hx
  have lt : (S.take (posE S e)).length = posE S e := by rw [List.length_take]; omega
  have lx : (xs.take (posE S e)).length = posE S e := by rw [List.length_take]; omega
  by_cases hj : j < posE S e
  · rw [List.getElem?_append_left (by omega), List.getElem?_take_of_lt hj] at hx
    rw [List.getElem?_append_left (by omega), List.getElem?_take_of_lt hj]
    obtain ⟨v', n', c', h2, h3⟩ := h.2 j x hx
    exact ⟨v', n', c', h2, h3.next hb⟩
  · rw [List.getElem?_append_right (by omega), lt] at hx
    rw [List.getElem?_append_right (by omega), lx]
    obtain ⟨k, rfl⟩ : ∃ k, j = posE S e + k := ⟨j - posE S e, by omega⟩
    rw [Nat.add_sub_cancel_left] at hx ⊢
    match k with
    | 0 =>
      simp at hx
      subst hx
      exact ⟨v, n, c, by simp, hs⟩
    | k + 1 =>
      rw [List.getElem?_cons_succ, List.getElem?_drop] at hx ⊢
      obtain ⟨v', n', c', h2, h3⟩ := h.2 _ x hx
      exact ⟨v', n', c', h2, h3.next hb⟩
/-- The items' values lie in no block of theirs. -/
def OffX (r : Option Nat) (xs : List Xi) : Prop := ∀ x ∈ xs, 0 < x.lv → ∀ b off, x.v = some ⟨b, off, none⟩ → r ≠ some b
theorem IsX.low {w : World} {base b2 : Nat} {v : Value} {l : List Xi} (h : IsX w base v l) (hb : b2 ≤ base) : IsX w b2 v l := by
  refine ⟨h.1, ?_⟩
  rcases h.2 with h1 | ⟨g, cap, cur, hv, hg, r⟩
  · exact .inl h1
  · exact .inr ⟨g, cap, cur, hv, Nat.le_trans hb hg, r⟩
theorem IsX.form3 {w : World} {base : Nat} {v : Value} {l : List Xi} (h : IsX w base v l) : ∃ a n cap, v = .slice a n cap := by
  obtain ⟨a, c, h, _⟩ := h.form2
  exact ⟨a, _, c, h⟩
theorem SlOk.kpX {w w' : World} {a : Option Addr} {len cap : Nat} {zs : List Int} (h : SlOk w a len cap zs) {q : Nat} {x : Option Addr} {n c : Nat} {m : Int} (hq : w.heap[q]? = some (.cells #[.slice x n c, .int .i64 m] 84 (0, 0))) (hk : Kp [q] w w') : SlOk w' a len cap zs := ⟨⟨h.row.size, h.row.oct, fun hpos => by
  obtain ⟨b, off, e, hc⟩ := h.row.at_ hpos
  refine ⟨b, off, e, fun i hi => ?_⟩
  have c := hc i hi
  have hne : b ∉ [q] := fun hmem => by
    simp at hmem
    subst hmem
    rw [cell_of_row _ _ _ _ _ _ hq] at c
    rcases (by omega : off + i = 0 ∨ off + i = 1 ∨ 2 ≤ off + i) with q | q | q
    · rw [q] at c; simp at c
    · rw [q] at c; simp at c
    · rw [Array.getElem?_eq_none (by simpa using q)] at c; simp at c
  rw [World.cell?_of_block (w := w) (hk.block _ (block_lt_of_cell c) hne)]
  exact c⟩, h.le, h.max⟩
theorem DocX.kpX {w w' : World} {xs : List Xi} {S : List Em} (h : DocX w xs S) {q : Nat} {x : Option Addr} {n c : Nat} {m : Int} (hq : w.heap[q]? = some (.cells #[.slice x n c, .int .i64 m] 84 (0, 0))) (hk : Kp [q] w w') : DocX w' xs S :=
  ⟨h.1, fun j e he => by obtain ⟨v, n, c, h1, h2⟩ := h.2 j e he; exact ⟨v, n, c, h1, h2.kpX hq hk⟩⟩
/-- One value of its own put behind, in a region that draws. -/
theorem wp_append_item1 {o : Oper} {a : Act} {w : World} {K : Act → World → Prop} {Q : Exit → Act → World → Prop} (s x : Operand)
    (ho : o.op = .call { callee := .builtin .append, args := #[s, x], argTypes := #[82, 82] }) (base : Nat) (v : Value) (l : List Xi) (hs : a.eval s = v) (hown : IsX w base v l)
    (ad : Addr) (y : Xi) (hx : a.eval x = .slice (some ad) 1 1) (hnews : ∀ j u, y.L[j]? = some u → w.cell? (ad.add j) = some u) (h63 : l.length ≤ 1000000) (hbase : base ≤ w.heap.size)
    (h : ∀ v' w', IsX w' base v' (l ++ [y]) → w.grownBy w' v.ownBlock → (∀ j, v'.ownBlock = some j → v.ownBlock = some j ∨ j = w.heap.size) → K (a.put o.dst v') w') : o.wp Tryz.prog a w K Q := by
  obtain ⟨i0, hi, hz0, hz1, hz2⟩ := info_parts infoX
  refine wp_append_lies (P := Tryz.prog) w s x 82 ho base 86 i0 _ 11 136 Tryz.underlying82 hi hz0 hz1 hz2 rfl (by decide) v l.length _ hs hown ad 1 1 y.L hx (Xi.L_len y) hnews (fun u hu => flx_one_cell [y] u (by rw [flx_one]; exact hu)) (by decide) (by unfold maxLen; omega) (by omega) hbase _ rfl ?_
  intro g cap w' h1 h2 h3 _
  refine h _ w' ?_ h2 (fun j hj => by cases hj; exact h3)
  show w'.ownsRow base 86 11 (.slice (some ⟨g, 0, none⟩) (l.length + 1) cap) (l ++ [y]).length (flx (l ++ [y]))
  rw [flx_app, flx_one, List.length_append]
  exact h1
/-- The cells of an item that stands alone. -/
theorem item_cells {w : World} {g : Nat} (y : Xi) {T : TypeId} (h : w.heap[g]? = some (.cells y.A T (0, 0))) : ∀ j u, y.L[j]? = some u → w.cell? ((⟨g, 0, none⟩ : Addr).add j) = some u := fun j u hu => by
  rw [show (⟨g, 0, none⟩ : Addr).add j = ⟨g, 0 + j, none⟩ from by simp [Addr.add]; try omega, cell_of_row _ _ _ _ _ _ h, Nat.zero_add, ← Array.getElem?_toList]
  exact hu
theorem sizeX8 : ∀ W, (sizeOf (Tryz.prog.elem 82)).run Tryz.prog W = .ok 11 W := fun W => by
  obtain ⟨i0, hi, hz0, hz1, hz2⟩ := info_parts infoX
  have e : Tryz.prog.elem 82 = 86 := by kernel_rfl
  rw [e]
  simp [sizeOf, typeInfo, hi, hz1]
set_option maxRecDepth 100000 in
/-- The first ones of a row, and those behind. -/
theorem slice_lo (a : Option Addr) (n c k : Nat) (hk : k ≤ c) (W : World) : (Instr.sliceAt 82 (.slice a n c) none (some (.int .i64 (k : Int))) none).run Tryz.prog W = .ok (.slice a k c) W := by
  rw [run_sliceAt_slice (P := Tryz.prog) W 82 _ _ _ _ Tryz.underlying82, run_slice_h (P := Tryz.prog) W 82 _ _ _ Tryz.underlying82 .i64 (k : Int) (by omega) (by omega), sizeX8]
  simp [sliced]
  intro _
  cases a with
  | none => rfl
  | some z => obtain ⟨b, o, p⟩ := z; cases p <;> simp [Addr.add]
set_option maxRecDepth 100000 in
theorem slice_hi (a : Option Addr) (n c k : Nat) (hk : k ≤ n) (W : World) : (Instr.sliceAt 82 (.slice a n c) (some (.int .i64 (k : Int))) none none).run Tryz.prog W = .ok (.slice (if c = k then a else a.map (·.add (k * 11))) (n - k) (c - k)) W := by
  rw [run_sliceAt_slice (P := Tryz.prog) W 82 _ _ _ _ Tryz.underlying82, run_slice_l (P := Tryz.prog) W 82 _ _ _ Tryz.underlying82 .i64 (k : Int) (by omega) (by omega), sizeX8]
  simp [sliced]
/-- The document's dictionary was made, or the code tells why not. -/
def RNew (es : List Em) (w : World) (r : Ending) (w' : World) : Prop :=
  (newC es = 0 ∧ ∃ q v xs, r = .returned (.tuple #[.pointer (some ⟨q, 0, none⟩), .int .i64 0]) ∧ w.heap.size ≤ q ∧ Below w.heap.size w w' ∧ w'.heap[q]? = some (.cells #[v, .int .i64 0] 84 (0, 0)) ∧ IsX w' w.heap.size v xs ∧ SortE (docG [] es).2 ∧ (∀ x, x ∈ (docG [] es).2 ↔ x ∈ es) ∧ DocX w' xs (docG [] es).2 ∧ xs.length = es.length ∧ OffX v.ownBlock xs) ∨
  (newC es ≠ 0 ∧ r = .returned (.tuple #[.pointer none, .int .i64 (newC es)]) ∧ Below w.heap.size w w')
/-- Where a round of New stands. -/
structure RSt (w : World) (es : List Em) (k : Nat) (S : List Em) (vA : Option Addr) (vC : Nat) (xs : List Xi) (wr : World) : Prop where
  g : docG [] es = docG S (es.drop k)
  b : Below w.heap.size w wr
  p : wr.heap[w.heap.size]? = some (.cells #[.slice vA k vC, .int .i64 0] 84 (0, 0))
  x : IsX wr w.heap.size (.slice vA k vC) xs
  s : SortE S
  l : S.length = k
  d : DocX wr xs S
  o : OffX (Value.slice vA k vC).ownBlock xs
theorem RSt.step {w : World} {es : List Em} {k : Nat} {S : List Em} {vA : Option Addr} {vC : Nat} {xs : List Xi} {wr : World} (h : RSt w es k S vA vC xs wr) {e : Em} (he : es[k]? = some e) (hm : mayE e = true) (ht : twiE S e = false) {W : World} (hb : Below wr.heap.size wr W) {a : Option Addr} {n c : Nat} (hs : SlOk W a n c (firstL e.t e.zd)) {v : Value} (hx : IsX W wr.heap.size v (xs.take (posE S e) ++ ofE e a n c :: xs.drop (posE S e))) (ho : 0 < n → ∀ b off, a = some ⟨b, off, none⟩ → v.ownBlock ≠ some b) :
    ∃ S' vA' vC' xs', RSt w es (k + 1) S' vA' vC' xs' (W.setCell ⟨w.heap.size, 0, none⟩ v) := by
  have hP : W.heap[w.heap.size]? = some (.cells #[.slice vA k vC, .int .i64 0] 84 (0, 0)) := blk11 hb h.p
  have hB : Below w.heap.size w W := Below.andThen h.b hb
  have hd := docX_ins h.d hb hs
  have hl : (xs.take (posE S e) ++ ofE e a n c :: xs.drop (posE S e)).length = k + 1 := by rw [hd.1, ins_len, h.l]
  obtain ⟨vA', vC', hv, _⟩ := hx.form2
  rw [hl] at hv
  subst hv
  have hn := hx.ne hP (by decide)
  refine ⟨insE S e, vA', vC', _, ?_, hB.setCell (Nat.le_refl _) _, ?_, ?_, ins_sorted h.s ht, by rw [ins_len, h.l], hd.kpX hP ((Kp.refl _ _).set _ _ (.inl (by simp))), ?_⟩
  · rw [h.g, docG_step S es k e he, if_neg (by simp [hm]), if_neg (by simp [ht])]
  · rw [heap_setCell_same _ _ _ _ _ _ hP]
    rfl
  · exact (hx.low (by have := h.b.size; omega)).same fun j hj => Below.heap_setCell _ _ _ _ (by intro e; simp at e; subst e; exact hn hj.symm)
  · have old : ∀ x ∈ xs, 0 < x.lv → ∀ b off, x.v = some ⟨b, off, none⟩ → b < wr.heap.size := fun x hxm hl b off e => by
      obtain ⟨j, hj, hjx⟩ := List.getElem_of_mem hxm
      obtain ⟨e2, he2⟩ : ∃ e2, S[j]? = some e2 := ⟨_, List.getElem?_eq_getElem (by rw [← h.d.1]; exact hj)⟩
      obtain ⟨v2, n2, c2, g1, g2⟩ := h.d.2 j e2 he2
      rw [List.getElem?_eq_getElem hj, hjx] at g1
      cases g1
      exact g2.row.old hl b off e
    intro x hxm hl b off e h3
    have hge := (hx.lt b h3).1
    rcases List.mem_append.1 hxm with q | q
    · have := old x (List.mem_of_mem_take q) hl b off e; omega
    · rcases List.mem_cons.1 q with rfl | q
      · exact ho hl b off e h3
      · have := old x (List.mem_of_mem_drop q) hl b off e; omega
theorem RSt.len {w : World} {es : List Em} {k : Nat} {S : List Em} {vA : Option Addr} {vC : Nat} {xs : List Xi} {wr : World} (h : RSt w es k S vA vC xs wr) : xs.length = k := h.d.1.trans h.l
theorem RSt.form {w : World} {es : List Em} {k : Nat} {S : List Em} {vA : Option Addr} {vC : Nat} {xs : List Xi} {wr : World} (h : RSt w es k S vA vC xs wr) : k ≤ vC ∧ (0 < k → ∃ g, vA = some ⟨g, 0, none⟩) := by
  have hl := h.len
  rcases h.x.form with ⟨h1, h2⟩ | ⟨g, cap, cur, hv, _, _, hn, _⟩
  · subst h2
    simp at hl
    subst hl
    exact ⟨Nat.zero_le _, fun h => absurd h (by omega)⟩
  · cases hv
    exact ⟨by omega, fun _ => ⟨g, rfl⟩⟩
theorem RSt.news1 {w : World} {es : List Em} {k : Nat} {S : List Em} {vA : Option Addr} {vC : Nat} {xs : List Xi} {wr : World} (h : RSt w es k S vA vC xs wr) (P : Nat) (hP : P ≤ k) {W : World} (hb : Below wr.heap.size wr W) : 0 < P → ∃ ad, vA = some ad ∧ ∀ j u, (flx (xs.take P))[j]? = some u → W.cell? (ad.add j) = some u := by
  intro h0
  have hl := h.len
  obtain ⟨g, rfl⟩ := h.form.2 (by omega)
  have hx := h.x
  rw [← hl] at hx
  refine ⟨_, rfl, fun j u hu => ?_⟩
  have := (hx.next hb).news 0 P (by omega) j u (by rw [List.drop_zero]; exact hu)
  simpa using this
theorem RSt.news2 {w : World} {es : List Em} {k : Nat} {S : List Em} {vA : Option Addr} {vC : Nat} {xs : List Xi} {wr : World} (h : RSt w es k S vA vC xs wr) (P : Nat) (hP : P ≤ k) {W : World} (hb : Below wr.heap.size wr W) : 0 < k - P → ∃ ad, (if vC = P then vA else vA.map (·.add (P * 11))) = some ad ∧ ∀ j u, (flx (xs.drop P))[j]? = some u → W.cell? (ad.add j) = some u := by
  intro h0
  have hl := h.len
  obtain ⟨hc, hf⟩ := h.form
  obtain ⟨g, rfl⟩ := hf (by omega)
  have hx := h.x
  rw [← hl] at hx
  refine ⟨⟨g, P * 11, none⟩, by rw [if_neg (by omega)]; simp [Addr.add]; omega, fun j u hu => ?_⟩
  exact (hx.next hb).news P (xs.length - P) (by omega) j u (by rw [List.take_of_length_le (by rw [List.length_drop]; exact Nat.le_refl _)]; exact hu)
theorem RSt.item {w : World} {es : List Em} {k : Nat} {S : List Em} {vA : Option Addr} {vC : Nat} {xs : List Xi} {wr : World} (h : RSt w es k S vA vC xs wr) {a : Nat} {x : Em} (hx : S[a]? = some x) : ∃ g, vA = some ⟨g, 0, none⟩ ∧ ∀ W, Below wr.heap.size wr W → (loadVar 52 ⟨g, a * 11, none⟩).run Tryz.prog W = .ok (.agg (enC x.i x.s x.nm x.t x.rt x.d x.ld x.cd x.l x.ll x.cl x.h x.lh x.ch x.tg x.gr)) W := by
  have hl := h.len
  have ha := (List.getElem?_eq_some_iff.1 hx).1
  obtain ⟨g, rfl⟩ := h.form.2 (by have := h.l; omega)
  have hX := h.x
  rw [← hl] at hX
  obtain ⟨v, n, c, h1, _⟩ := h.d.2 a x hx
  exact ⟨g, rfl, fun W hb => (hX.next hb).entry a _ h1⟩
set_option maxRecDepth 100000 in
/-- An entry that came in, out of memory. -/
theorem EmAtO.load {w : World} {eb off k : Nat} {e : Em} (h : EmAtO w eb off k e) {W : World} (hb : Below w.heap.size w W) : (loadVar 52 ⟨eb, off + k * 10, none⟩).run Tryz.prog W = .ok (.agg (enC e.i e.s e.nm e.t e.rt e.d e.ld e.cd e.l e.ll e.cl e.h e.lh e.ch e.tg e.gr)) W := by
  obtain ⟨m0, m1, m2, m3, m4, m5, m6, m7, m8, m9⟩ := h
  cases hq : Tryz.prog.info? 52 with
  | none => have := sizeE; simp [hq] at this
  | some i =>
    have hi : i.size = 10 := by have := sizeE; simpa [hq] using this
    refine Go.Lib.rl_loadVar_cells (P := Tryz.prog) 52 i hq aggE eb (off + k * 10) (enC e.i e.s e.nm e.t e.rt e.d e.ld e.cd e.l e.ll e.cl e.h e.lh e.ch e.tg e.gr).toList (by simp [hi]) W (fun j v hv => ?_)
    match j, hv with
    | 0, hv => simp at hv; subst hv; exact (hb.cell (block_lt_of_cell m0)).trans m0
    | 1, hv => simp at hv; subst hv; exact (hb.cell (block_lt_of_cell m1)).trans m1
    | 2, hv => simp at hv; subst hv; exact (hb.cell (block_lt_of_cell m2)).trans m2
    | 3, hv => simp at hv; subst hv; exact (hb.cell (block_lt_of_cell m3)).trans m3
    | 4, hv => simp at hv; subst hv; exact (hb.cell (block_lt_of_cell m4)).trans m4
    | 5, hv => simp at hv; subst hv; exact (hb.cell (block_lt_of_cell m5)).trans m5
    | 6, hv => simp at hv; subst hv; exact (hb.cell (block_lt_of_cell m6)).trans m6
    | 7, hv => simp at hv; subst hv; exact (hb.cell (block_lt_of_cell m7)).trans m7
    | 8, hv => simp at hv; subst hv; exact (hb.cell (block_lt_of_cell m8)).trans m8
    | 9, hv => simp at hv; subst hv; exact (hb.cell (block_lt_of_cell m9)).trans m9
    | j + 10, hv => simp at hv
#print axioms RSt.step
#print axioms EmAtO.load
#print axioms RSt.item
#print axioms wp_append_item1
#print axioms slice_hi
end Go.Proofs.YtajllkkbgpijiaaGreatDoor
namespace Go.Proofs.YtajllkkbgpijiaaGreatDoor
open Go.RowKit

set_option linter.unusedSimpArgs false in
set_option maxHeartbeats 4000000 in
set_option maxRecDepth 100000 in
theorem rnew_any (ad : Option Addr) (eb off cap : Nat) (es : List Em) (w : World) (had : 0 < es.length → ad = some ⟨eb, off, none⟩) (hok : ∀ e ∈ es, EmIn w e) (hat : ∀ (k : Nat) (e : Em), es[k]? = some e → EmAtO w eb off k e) :
    Calls Tryz.prog 17 #[.slice ad es.length cap] w (RNew es w) := by
  have HAD : Hid (0 < es.length → ad = some ⟨eb, off, none⟩) := had
  obtain ⟨N, HN⟩ : ∃ N, Hid (es.length = N) := ⟨_, rfl⟩
  have HOK : Hid (∀ e ∈ es, EmIn w e) := hok
  have HAT : Hid (∀ (k : Nat) (e : Em), es[k]? = some e → EmAtO w eb off k e) := hat
  clear hok hat had
  rw [HN.out]
  by_cases hbig : 1024 < N
  · have hN' : (1024 : Int) < (N : Int) := by omega
    have C3 : Hid (newC es = 3) := by
      show newC es = 3
      unfold newC
      rw [HN.out, if_pos hbig]
    go_enter Tryz.func17, Tryz.ntmps17
    go_wp2_with fail
    go_ret2
    exact Or.inr ⟨by rw [C3.out]; decide, by rw [C3.out]; rfl, (by repeat (first | exact Below.refl _ _ | apply Below.drew | apply Below.al))⟩
  have hN' : ¬ (1024 : Int) < (N : Int) := by omega
  have NC : Hid (newC es = (docG [] es).1) := by
    show newC es = _
    unfold newC
    rw [HN.out, if_neg hbig]
    exact (docG_code es [] [] List.Pairwise.nil (fun _ => Iff.rfl)).symm
  go_enter Tryz.func17, Tryz.ntmps17
  go_wp2_with fail
  go_loopw [5] (fun iv wr => ∃ (k : Nat) (S : List Em) (vA : Option Addr) (vC : Nat) (xs : List Xi), k ≤ N ∧ iv = .int .i64 (k : Int) ∧ Hid (RSt w es k S vA vC xs wr)) (fun iv _ => N - (intOf iv).toNat)
  case atStart => exact ⟨0, [], none, 0, [], Nat.zero_le _, rfl, ⟨rfl, (by repeat (first | exact Below.refl _ _ | apply Below.drew | apply Below.al)), at11 _ _ _ rfl, isX_nil _ _, List.Pairwise.nil, rfl, ⟨rfl, fun j e he => by simp at he⟩, fun x hx => by cases hx⟩⟩
  case round =>
    obtain ⟨k, S, vA, vC, xs, hk, rfl, HR⟩ := hrel
    obtain ⟨wo, rfl⟩ : ∃ z, z = wr := ⟨_, rfl⟩
    have lq : w.heap.size < wo.heap.size := lt_of_heap HR.out.p
    have BR : Hid (Below w.heap.size w wo) := HR.out.b
    by_cases hlt : k < N
    · have hlt' : (k : Int) < (N : Int) := by omega
      have HK : Hid (k < N) := hlt
      have hk9 : k < es.length := by have := HN.out; omega
      obtain ⟨e, hE⟩ : ∃ e, es[k]? = some e := ⟨es[k], List.getElem?_eq_getElem hk9⟩
      have HE : Hid (es[k]? = some e) := hE
      have hOK := HOK.out e (List.mem_of_getElem? hE)
      have LE : Hid (∀ W, Below w.heap.size w W → (loadVar 52 ⟨eb, off + k * 10, none⟩).run Tryz.prog W = .ok (.agg (enC e.i e.s e.nm e.t e.rt e.d e.ld e.cd e.l e.ll e.cl e.h e.lh e.ch e.tg e.gr)) W) := fun W hW => (HAT.out k e hE).load hW
      obtain rfl := HAD.out (by omega)
      obtain ⟨q, HQ⟩ : ∃ q, Hid (mayE e = q) := ⟨_, rfl⟩
      obtain ⟨u, HU⟩ : ∃ u, Hid (twiE S e = u) := ⟨_, rfl⟩
      obtain ⟨P, HP⟩ : ∃ P, Hid (posE S e = P) := ⟨_, rfl⟩
      have HG : Hid (docG [] es = if q = false then (80, S) else if u = true then (6, S) else docG (insE S e) (es.drop (k + 1))) := by
        show _ = _
        rw [HR.out.g, docG_step S es k e hE, HQ.out, HU.out]
      have PK : Hid (P ≤ k) := by
        show P ≤ k
        have := pos_le S e
        rw [HP.out, HR.out.l] at this
        exact this
      obtain ⟨i, s, nm, t, rt, d, ld, cd, l, ll, cl, h, lh, ch, tg, gr, zd, zl, zh⟩ := e
      obtain ⟨rd, rl, rh, b1, b2, b3⟩ := hOK
      dsimp only at rd rl rh b1 b2 b3 LE
      have HFI : Hid (∀ W, Below w.heap.size w W → Calls Tryz.prog 44 #[.agg (enC i s nm t rt d ld cd l ll cl h lh ch tg gr)] W fun e w' => ∃ a n c, e = .returned (.slice a n c) ∧ Kept w' W.heap.size a n c (firstL t zd) ∧ Below W.heap.size W w') := fun W hb => first_kept i s nm t rt d ld cd l ll cl h lh ch tg gr zd W (rd.next hb) b1
      have HMB : Hid (∀ W, Below w.heap.size w W → Calls Tryz.prog 42 #[.agg (enC i s nm t rt d ld cd l ll cl h lh ch tg gr)] W fun e w' => e = .returned (.bool q) ∧ Below W.heap.size W w') := fun W hb => by rw [← HQ.out]; exact right8 i s nm t rt d ld cd l ll cl h lh ch tg gr zd zl zh W (rd.next hb) (rl.next hb) (rh.next hb) b1
      have CQ : Hid (∀ W, Below wo.heap.size wo W → W.cell? ⟨w.heap.size, 0, none⟩ = some (.slice vA k vC)) := fun W hW => by rw [cell_of_row _ _ 0 _ _ _ (blk11 hW HR.out.p)]; rfl
      have KC : Hid (k ≤ vC) := HR.out.form.1
      clear rd rl rh b1 b2 b3 hE hk9
      go_wp2_with (refine wpList_load_by rfl 52 _ rfl ⟨eb, off + k * 10, none⟩ _ rfl (LE.out _ BR.out) ?_)
      refine (HMB.out _ BR.out).mono ?_
      rintro r w1 ⟨rfl, hb⟩
      have B1 : Hid (Below wo.heap.size wo w1) := hb
      clear hb
      cases q
      case false =>
        have C80 : Hid (newC es = 80) := by show _ = _; rw [NC.out, HG.out]; rfl
        go_wp2_with fail
        go_ret2
        exact Or.inr ⟨by rw [C80.out]; decide, by rw [C80.out]; rfl, Below.andThen BR.out B1.out⟩
      go_wp2_with fail
      go_loopw [6] (fun iv wi => ∃ a : Nat, a ≤ P ∧ iv = .int .i64 (a : Int) ∧ Hid (Below wo.heap.size wo wi)) (fun iv _ => P - (intOf iv).toNat)
      case atStart => exact ⟨0, Nat.zero_le _, rfl, B1.out⟩
      case round =>
        obtain ⟨a, ha, rfl, HB⟩ := hrel
        have ga0 : (0 : Int) ≤ (a : Int) := by omega
        have gk0 : (0 : Int) ≤ (k : Int) := by omega
        have cq := CQ.out _ HB.out
        by_cases haP : a < P
        · have hak : (a : Int) < (k : Int) := by have := PK.out; omega
          obtain ⟨x0, hx0⟩ : ∃ x, S[a]? = some x := ⟨_, List.getElem?_eq_getElem (by have := HR.out.l; have := PK.out; omega)⟩
          have hbe : befE x0 ⟨i, s, nm, t, rt, d, ld, cd, l, ll, cl, h, lh, ch, tg, gr, zd, zl, zh⟩ = true := pos_ahead _ S a x0 (by rw [HP.out]; exact haP) hx0
          obtain ⟨g, rfl, hLX⟩ := HR.out.item hx0
          obtain ⟨i0, s0, nm0, t0, rt0, d0, ld0, cd0, l0, ll0, cl0, h0, lh0, ch0, tg0, gr0, zd0, zl0, zh0⟩ := x0
          dsimp only at hLX
          have LX : Hid (∀ W, Below wo.heap.size wo W → (loadVar 52 ⟨g, a * 11, none⟩).run Tryz.prog W = .ok (.agg (enC i0 s0 nm0 t0 rt0 d0 ld0 cd0 l0 ll0 cl0 h0 lh0 ch0 tg0 gr0)) W) := hLX
          have BF : Hid (∀ W, Calls Tryz.prog 43 #[.agg (enC i0 s0 nm0 t0 rt0 d0 ld0 cd0 l0 ll0 cl0 h0 lh0 ch0 tg0 gr0), .agg (enC i s nm t rt d ld cd l ll cl h lh ch tg gr)] W fun e w' => e = .returned (.bool true) ∧ Below W.heap.size W w') := fun W => by rw [show true = befB i0 s0 i s from hbe.symm]; exact before_any i0 s0 nm0 t0 rt0 d0 ld0 cd0 l0 ll0 cl0 h0 lh0 ch0 tg0 gr0 i s nm t rt d ld cd l ll cl h lh ch tg gr W
          have wk : IntKind.i64.wrap ((a : Int) + 1) = ((a + 1 : Nat) : Int) := by rw [IntKind.wrap_i64]; have := HK.out; have := PK.out; omega
          clear hx0 hbe hLX
          go_wp2_with fail
          refine wp_region_held_drew (S := fun x => Below wo.heap.size wo x ∧ x.cell? ⟨w.heap.size, 0, none⟩ = some (.slice (some ⟨g, 0, none⟩) k vC)) (by kernel_rfl) (⟨Below.drew HB.out, cq⟩) (fun hHeld => ?_)
          refine tk 0 (.int .i64 (a : Int)) rfl (.inl ⟨by rfl, ?_⟩) ?_
          · intro w9 hSw
            try dsimp only at hSw
            go_simp
            all_goals try decide
            all_goals try assumption
            all_goals try omega
          try simp only [Act.put, gA, gS, gZ, sA, sZ, sS]
          refine tk 1 (.pointer (some ⟨w.heap.size, 0, none⟩)) rfl (.inl ⟨by rfl, ?_⟩) ?_
          · intro w9 hSw
            try dsimp only at hSw
            go_simp
            all_goals try decide
            all_goals try assumption
            all_goals try omega
          try simp only [Act.put, gA, gS, gZ, sA, sZ, sS]
          refine tk 2 (.pointer (some ⟨w.heap.size, 0, none⟩)) rfl (.inl ⟨by rfl, ?_⟩) ?_
          · intro w9 hSw
            try dsimp only at hSw
            go_simp
            all_goals try decide
            all_goals try assumption
            all_goals try omega
          try simp only [Act.put, gA, gS, gZ, sA, sZ, sS]
          refine tk 3 (.pointer (some ⟨w.heap.size, 0, none⟩)) rfl (.inl ⟨by rfl, ?_⟩) ?_
          · intro w9 hSw
            try dsimp only at hSw
            go_simp
            all_goals try decide
            all_goals try assumption
            all_goals try omega
          try simp only [Act.put, gA, gS, gZ, sA, sZ, sS]
          refine tk 4 (.slice (some ⟨g, 0, none⟩) k vC) rfl (.inl ⟨by rfl, ?_⟩) ?_
          · intro w9 hSw
            try dsimp only at hSw
            go_simp
            all_goals try decide
            all_goals try assumption
            all_goals try omega
          try simp only [Act.put, gA, gS, gZ, sA, sZ, sS]
          refine tk 5 (.int .i64 (k : Int)) rfl (.inl ⟨by rfl, ?_⟩) ?_
          · intro w9 hSw
            try dsimp only at hSw
            go_simp
            all_goals try decide
            all_goals try assumption
            all_goals try omega
          try simp only [Act.put, gA, gS, gZ, sA, sZ, sS]
          refine tk 6 (.bool true) rfl (.inl ⟨by rfl, ?_⟩) ?_
          · intro w9 hSw
            try dsimp only at hSw
            go_simp
            all_goals try decide
            all_goals try assumption
            all_goals try omega
          try simp only [Act.put, gA, gS, gZ, sA, sZ, sS]
          refine tk 7 (.bool true) rfl (.inl ⟨by rfl, ?_⟩) ?_
          · intro w9 hSw
            try dsimp only at hSw
            go_simp
            all_goals try decide
            all_goals try assumption
            all_goals try omega
          try simp only [Act.put, gA, gS, gZ, sA, sZ, sS]
          refine tk 8 (.pointer (some ⟨w.heap.size, 0, none⟩)) rfl (.inl ⟨by rfl, ?_⟩) ?_
          · intro w9 hSw
            try dsimp only at hSw
            go_simp
            all_goals try decide
            all_goals try assumption
            all_goals try omega
          try simp only [Act.put, gA, gS, gZ, sA, sZ, sS]
          refine tk 9 (.pointer (some ⟨w.heap.size, 0, none⟩)) rfl (.inl ⟨by rfl, ?_⟩) ?_
          · intro w9 hSw
            try dsimp only at hSw
            go_simp
            all_goals try decide
            all_goals try assumption
            all_goals try omega
          try simp only [Act.put, gA, gS, gZ, sA, sZ, sS]
          refine tk 10 (.pointer (some ⟨w.heap.size, 0, none⟩)) rfl (.inl ⟨by rfl, ?_⟩) ?_
          · intro w9 hSw
            try dsimp only at hSw
            go_simp
            all_goals try decide
            all_goals try assumption
            all_goals try omega
          try simp only [Act.put, gA, gS, gZ, sA, sZ, sS]
          refine tk 11 (.slice (some ⟨g, 0, none⟩) k vC) rfl (.inl ⟨by rfl, ?_⟩) ?_
          · intro w9 hSw
            try dsimp only at hSw
            go_simp
            all_goals try decide
            all_goals try assumption
            all_goals try omega
          try simp only [Act.put, gA, gS, gZ, sA, sZ, sS]
          refine tk 12 (.int .i64 (a : Int)) rfl (.inl ⟨by rfl, ?_⟩) ?_
          · intro w9 hSw
            try dsimp only at hSw
            go_simp
            all_goals try decide
            all_goals try assumption
            all_goals try omega
          try simp only [Act.put, gA, gS, gZ, sA, sZ, sS]
          refine tk 13 (.pointer (some ⟨g, a * 11, none⟩)) rfl (.inl ⟨by rfl, ?_⟩) ?_
          · intro w9 hSw
            try dsimp only at hSw
            go_simp
            all_goals try decide
            all_goals try assumption
            all_goals try omega
          try simp only [Act.put, gA, gS, gZ, sA, sZ, sS]
          refine tk 14 (.pointer (some ⟨g, a * 11, none⟩)) rfl (.inl ⟨by rfl, ?_⟩) ?_
          · intro w9 hSw
            try dsimp only at hSw
            go_simp
            all_goals try decide
            all_goals try assumption
            all_goals try omega
          try simp only [Act.put, gA, gS, gZ, sA, sZ, sS]
          refine tk 15 (.agg (enC i0 s0 nm0 t0 rt0 d0 ld0 cd0 l0 ll0 cl0 h0 lh0 ch0 tg0 gr0)) rfl (.inl ⟨by rfl, ?_⟩) ?_
          · intro w9 hSw
            try dsimp only at hSw
            exact ex_load11 52 (.tmp 39) rfl _ _ rfl (LX.out _ hSw.1)
          try simp only [Act.put, gA, gS, gZ, sA, sZ, sS]
          refine tk 16 (.slice (some ⟨eb, off, none⟩) N cap) rfl (.inl ⟨by rfl, ?_⟩) ?_
          · intro w9 hSw
            try dsimp only at hSw
            go_simp
            all_goals try decide
            all_goals try assumption
            all_goals try omega
          try simp only [Act.put, gA, gS, gZ, sA, sZ, sS]
          refine tk 17 (.int .i64 (k : Int)) rfl (.inl ⟨by rfl, ?_⟩) ?_
          · intro w9 hSw
            try dsimp only at hSw
            go_simp
            all_goals try decide
            all_goals try assumption
            all_goals try omega
          try simp only [Act.put, gA, gS, gZ, sA, sZ, sS]
          refine tk 18 (.pointer (some ⟨eb, off + k * 10, none⟩)) rfl (.inl ⟨by rfl, ?_⟩) ?_
          · intro w9 hSw
            try dsimp only at hSw
            go_simp
            all_goals try decide
            all_goals try assumption
            all_goals try omega
          try simp only [Act.put, gA, gS, gZ, sA, sZ, sS]
          refine tk 19 (.agg (enC i s nm t rt d ld cd l ll cl h lh ch tg gr)) rfl (.inl ⟨by rfl, ?_⟩) ?_
          · intro w9 hSw
            try dsimp only at hSw
            exact ex_load11 52 (.tmp 43) rfl _ _ rfl (LE.out _ (Below.andThen BR.out hSw.1))
          try simp only [Act.put, gA, gS, gZ, sA, sZ, sS]
          refine wpAnyH_ready (rs := [20]) (by kernel_rfl) (by simp) ?_
          refine AllReadyH.cons rfl (fun K' hK => ?_) AllReadyH.nil
          rw [if_pos (by rfl)]
          simp only [gA, gS, gZ]
          go_wp2_with fail
          refine (BF.out _).mono ?_
          rintro e9 w5 ⟨rfl, hb5⟩
          try go_wp2_with fail
          refine hK.out _ _ (⟨Below.andThen hHeld.1 hb5, (hb5.cell (block_lt_of_cell hHeld.2)).trans hHeld.2⟩) (fun hHeld => ?_)
          clear hK K'
          try simp only [Act.put, gA, gS, gZ, sA, sZ, sS]
          refine tk 21 (.bool true) rfl (.inl ⟨by rfl, ?_⟩) ?_
          · intro w9 hSw
            try dsimp only at hSw
            go_simp
            all_goals try decide
            all_goals try assumption
            all_goals try omega
          try simp only [Act.put, gA, gS, gZ, sA, sZ, sS]
          refine wpAnyH_done (by kernel_rfl) ?_ _
          have B6 := hHeld.1
          clear hHeld
          go_wp2_with fail
          exact ⟨⟨a + 1, by omega, by go_num, B6⟩, by simp [intOf]; omega⟩
        obtain rfl : a = P := by omega
        by_cases hak : a < k
        · have hak' : (a : Int) < (k : Int) := by omega
          obtain ⟨x0, hx0⟩ : ∃ x, S[a]? = some x := ⟨_, List.getElem?_eq_getElem (by have := HR.out.l; omega)⟩
          have hbe : befE x0 ⟨i, s, nm, t, rt, d, ld, cd, l, ll, cl, h, lh, ch, tg, gr, zd, zl, zh⟩ = false := pos_here _ S x0 (by rw [HP.out]; exact hx0)
          have hub : u = !befE ⟨i, s, nm, t, rt, d, ld, cd, l, ll, cl, h, lh, ch, tg, gr, zd, zl, zh⟩ x0 := by
            rw [← HU.out]
            unfold twiE
            rw [HP.out, hx0]
          obtain ⟨g, rfl, hLX⟩ := HR.out.item hx0
          obtain ⟨i0, s0, nm0, t0, rt0, d0, ld0, cd0, l0, ll0, cl0, h0, lh0, ch0, tg0, gr0, zd0, zl0, zh0⟩ := x0
          dsimp only at hLX
          have LX : Hid (∀ W, Below wo.heap.size wo W → (loadVar 52 ⟨g, a * 11, none⟩).run Tryz.prog W = .ok (.agg (enC i0 s0 nm0 t0 rt0 d0 ld0 cd0 l0 ll0 cl0 h0 lh0 ch0 tg0 gr0)) W) := hLX
          have BF : Hid (∀ W, Calls Tryz.prog 43 #[.agg (enC i0 s0 nm0 t0 rt0 d0 ld0 cd0 l0 ll0 cl0 h0 lh0 ch0 tg0 gr0), .agg (enC i s nm t rt d ld cd l ll cl h lh ch tg gr)] W fun e w' => e = .returned (.bool false) ∧ Below W.heap.size W w') := fun W => by rw [show false = befB i0 s0 i s from hbe.symm]; exact before_any i0 s0 nm0 t0 rt0 d0 ld0 cd0 l0 ll0 cl0 h0 lh0 ch0 tg0 gr0 i s nm t rt d ld cd l ll cl h lh ch tg gr W
          have BG : Hid (∀ W, Calls Tryz.prog 43 #[.agg (enC i s nm t rt d ld cd l ll cl h lh ch tg gr), .agg (enC i0 s0 nm0 t0 rt0 d0 ld0 cd0 l0 ll0 cl0 h0 lh0 ch0 tg0 gr0)] W fun e w' => e = .returned (.bool !u) ∧ Below W.heap.size W w') := fun W => by rw [show (!u) = befB i s i0 s0 from by rw [hub, Bool.not_not]; rfl]; exact before_any i s nm t rt d ld cd l ll cl h lh ch tg gr i0 s0 nm0 t0 rt0 d0 ld0 cd0 l0 ll0 cl0 h0 lh0 ch0 tg0 gr0 W
          clear hx0 hbe hLX hub
          cases u
          case true =>
            have C6 : Hid (newC es = 6) := by show _ = _; rw [NC.out, HG.out]; rfl
            have BG2 : Hid (∀ W, Calls Tryz.prog 43 #[.agg (enC i s nm t rt d ld cd l ll cl h lh ch tg gr), .agg (enC i0 s0 nm0 t0 rt0 d0 ld0 cd0 l0 ll0 cl0 h0 lh0 ch0 tg0 gr0)] W fun e w' => e = .returned (.bool false) ∧ Below W.heap.size W w') := BG
            go_wp2_with fail
            refine wp_region_held_drew (S := fun x => Below wo.heap.size wo x ∧ x.cell? ⟨w.heap.size, 0, none⟩ = some (.slice (some ⟨g, 0, none⟩) k vC)) (by kernel_rfl) (⟨Below.drew HB.out, cq⟩) (fun hHeld => ?_)
            refine tk 0 (.int .i64 (a : Int)) rfl (.inl ⟨by rfl, ?_⟩) ?_
            · intro w9 hSw
              try dsimp only at hSw
              go_simp
              all_goals try decide
              all_goals try assumption
              all_goals try omega
            try simp only [Act.put, gA, gS, gZ, sA, sZ, sS]
            refine tk 1 (.pointer (some ⟨w.heap.size, 0, none⟩)) rfl (.inl ⟨by rfl, ?_⟩) ?_
            · intro w9 hSw
              try dsimp only at hSw
              go_simp
              all_goals try decide
              all_goals try assumption
              all_goals try omega
            try simp only [Act.put, gA, gS, gZ, sA, sZ, sS]
            refine tk 2 (.pointer (some ⟨w.heap.size, 0, none⟩)) rfl (.inl ⟨by rfl, ?_⟩) ?_
            · intro w9 hSw
              try dsimp only at hSw
              go_simp
              all_goals try decide
              all_goals try assumption
              all_goals try omega
            try simp only [Act.put, gA, gS, gZ, sA, sZ, sS]
            refine tk 3 (.pointer (some ⟨w.heap.size, 0, none⟩)) rfl (.inl ⟨by rfl, ?_⟩) ?_
            · intro w9 hSw
              try dsimp only at hSw
              go_simp
              all_goals try decide
              all_goals try assumption
              all_goals try omega
            try simp only [Act.put, gA, gS, gZ, sA, sZ, sS]
            refine tk 4 (.slice (some ⟨g, 0, none⟩) k vC) rfl (.inl ⟨by rfl, ?_⟩) ?_
            · intro w9 hSw
              try dsimp only at hSw
              go_simp
              all_goals try decide
              all_goals try assumption
              all_goals try omega
            try simp only [Act.put, gA, gS, gZ, sA, sZ, sS]
            refine tk 5 (.int .i64 (k : Int)) rfl (.inl ⟨by rfl, ?_⟩) ?_
            · intro w9 hSw
              try dsimp only at hSw
              go_simp
              all_goals try decide
              all_goals try assumption
              all_goals try omega
            try simp only [Act.put, gA, gS, gZ, sA, sZ, sS]
            refine tk 6 (.bool true) rfl (.inl ⟨by rfl, ?_⟩) ?_
            · intro w9 hSw
              try dsimp only at hSw
              go_simp
              all_goals try decide
              all_goals try assumption
              all_goals try omega
            try simp only [Act.put, gA, gS, gZ, sA, sZ, sS]
            refine tk 7 (.bool true) rfl (.inl ⟨by rfl, ?_⟩) ?_
            · intro w9 hSw
              try dsimp only at hSw
              go_simp
              all_goals try decide
              all_goals try assumption
              all_goals try omega
            try simp only [Act.put, gA, gS, gZ, sA, sZ, sS]
            refine tk 8 (.pointer (some ⟨w.heap.size, 0, none⟩)) rfl (.inl ⟨by rfl, ?_⟩) ?_
            · intro w9 hSw
              try dsimp only at hSw
              go_simp
              all_goals try decide
              all_goals try assumption
              all_goals try omega
            try simp only [Act.put, gA, gS, gZ, sA, sZ, sS]
            refine tk 9 (.pointer (some ⟨w.heap.size, 0, none⟩)) rfl (.inl ⟨by rfl, ?_⟩) ?_
            · intro w9 hSw
              try dsimp only at hSw
              go_simp
              all_goals try decide
              all_goals try assumption
              all_goals try omega
            try simp only [Act.put, gA, gS, gZ, sA, sZ, sS]
            refine tk 10 (.pointer (some ⟨w.heap.size, 0, none⟩)) rfl (.inl ⟨by rfl, ?_⟩) ?_
            · intro w9 hSw
              try dsimp only at hSw
              go_simp
              all_goals try decide
              all_goals try assumption
              all_goals try omega
            try simp only [Act.put, gA, gS, gZ, sA, sZ, sS]
            refine tk 11 (.slice (some ⟨g, 0, none⟩) k vC) rfl (.inl ⟨by rfl, ?_⟩) ?_
            · intro w9 hSw
              try dsimp only at hSw
              go_simp
              all_goals try decide
              all_goals try assumption
              all_goals try omega
            try simp only [Act.put, gA, gS, gZ, sA, sZ, sS]
            refine tk 12 (.int .i64 (a : Int)) rfl (.inl ⟨by rfl, ?_⟩) ?_
            · intro w9 hSw
              try dsimp only at hSw
              go_simp
              all_goals try decide
              all_goals try assumption
              all_goals try omega
            try simp only [Act.put, gA, gS, gZ, sA, sZ, sS]
            refine tk 13 (.pointer (some ⟨g, a * 11, none⟩)) rfl (.inl ⟨by rfl, ?_⟩) ?_
            · intro w9 hSw
              try dsimp only at hSw
              go_simp
              all_goals try decide
              all_goals try assumption
              all_goals try omega
            try simp only [Act.put, gA, gS, gZ, sA, sZ, sS]
            refine tk 14 (.pointer (some ⟨g, a * 11, none⟩)) rfl (.inl ⟨by rfl, ?_⟩) ?_
            · intro w9 hSw
              try dsimp only at hSw
              go_simp
              all_goals try decide
              all_goals try assumption
              all_goals try omega
            try simp only [Act.put, gA, gS, gZ, sA, sZ, sS]
            refine tk 15 (.agg (enC i0 s0 nm0 t0 rt0 d0 ld0 cd0 l0 ll0 cl0 h0 lh0 ch0 tg0 gr0)) rfl (.inl ⟨by rfl, ?_⟩) ?_
            · intro w9 hSw
              try dsimp only at hSw
              exact ex_load11 52 (.tmp 39) rfl _ _ rfl (LX.out _ hSw.1)
            try simp only [Act.put, gA, gS, gZ, sA, sZ, sS]
            refine tk 16 (.slice (some ⟨eb, off, none⟩) N cap) rfl (.inl ⟨by rfl, ?_⟩) ?_
            · intro w9 hSw
              try dsimp only at hSw
              go_simp
              all_goals try decide
              all_goals try assumption
              all_goals try omega
            try simp only [Act.put, gA, gS, gZ, sA, sZ, sS]
            refine tk 17 (.int .i64 (k : Int)) rfl (.inl ⟨by rfl, ?_⟩) ?_
            · intro w9 hSw
              try dsimp only at hSw
              go_simp
              all_goals try decide
              all_goals try assumption
              all_goals try omega
            try simp only [Act.put, gA, gS, gZ, sA, sZ, sS]
            refine tk 18 (.pointer (some ⟨eb, off + k * 10, none⟩)) rfl (.inl ⟨by rfl, ?_⟩) ?_
            · intro w9 hSw
              try dsimp only at hSw
              go_simp
              all_goals try decide
              all_goals try assumption
              all_goals try omega
            try simp only [Act.put, gA, gS, gZ, sA, sZ, sS]
            refine tk 19 (.agg (enC i s nm t rt d ld cd l ll cl h lh ch tg gr)) rfl (.inl ⟨by rfl, ?_⟩) ?_
            · intro w9 hSw
              try dsimp only at hSw
              exact ex_load11 52 (.tmp 43) rfl _ _ rfl (LE.out _ (Below.andThen BR.out hSw.1))
            try simp only [Act.put, gA, gS, gZ, sA, sZ, sS]
            refine wpAnyH_ready (rs := [20]) (by kernel_rfl) (by simp) ?_
            refine AllReadyH.cons rfl (fun K' hK => ?_) AllReadyH.nil
            rw [if_pos (by rfl)]
            simp only [gA, gS, gZ]
            go_wp2_with fail
            refine (BF.out _).mono ?_
            rintro e9 w5 ⟨rfl, hb5⟩
            try go_wp2_with fail
            refine hK.out _ _ (⟨Below.andThen hHeld.1 hb5, (hb5.cell (block_lt_of_cell hHeld.2)).trans hHeld.2⟩) (fun hHeld => ?_)
            clear hK K'
            try simp only [Act.put, gA, gS, gZ, sA, sZ, sS]
            refine tk 21 (.bool false) rfl (.inl ⟨by rfl, ?_⟩) ?_
            · intro w9 hSw
              try dsimp only at hSw
              go_simp
              all_goals try decide
              all_goals try assumption
              all_goals try omega
            try simp only [Act.put, gA, gS, gZ, sA, sZ, sS]
            refine wpAnyH_done (by kernel_rfl) ?_ _
            have H10 := hHeld
            clear hHeld
            go_wp2_with fail
            refine wp_region_held_drew (S := fun x => Below wo.heap.size wo x ∧ x.cell? ⟨w.heap.size, 0, none⟩ = some (.slice (some ⟨g, 0, none⟩) k vC)) (by kernel_rfl) (⟨Below.drew H10.1, H10.2⟩) (fun hHeld => ?_)
            refine tk 0 (.int .i64 (a : Int)) rfl (.inl ⟨by rfl, ?_⟩) ?_
            · intro w9 hSw
              try dsimp only at hSw
              go_simp
              all_goals try decide
              all_goals try assumption
              all_goals try omega
            try simp only [Act.put, gA, gS, gZ, sA, sZ, sS]
            refine tk 1 (.pointer (some ⟨w.heap.size, 0, none⟩)) rfl (.inl ⟨by rfl, ?_⟩) ?_
            · intro w9 hSw
              try dsimp only at hSw
              go_simp
              all_goals try decide
              all_goals try assumption
              all_goals try omega
            try simp only [Act.put, gA, gS, gZ, sA, sZ, sS]
            refine tk 2 (.pointer (some ⟨w.heap.size, 0, none⟩)) rfl (.inl ⟨by rfl, ?_⟩) ?_
            · intro w9 hSw
              try dsimp only at hSw
              go_simp
              all_goals try decide
              all_goals try assumption
              all_goals try omega
            try simp only [Act.put, gA, gS, gZ, sA, sZ, sS]
            refine tk 3 (.pointer (some ⟨w.heap.size, 0, none⟩)) rfl (.inl ⟨by rfl, ?_⟩) ?_
            · intro w9 hSw
              try dsimp only at hSw
              go_simp
              all_goals try decide
              all_goals try assumption
              all_goals try omega
            try simp only [Act.put, gA, gS, gZ, sA, sZ, sS]
            refine tk 4 (.slice (some ⟨g, 0, none⟩) k vC) rfl (.inl ⟨by rfl, ?_⟩) ?_
            · intro w9 hSw
              try dsimp only at hSw
              go_simp
              all_goals try decide
              all_goals try assumption
              all_goals try omega
            try simp only [Act.put, gA, gS, gZ, sA, sZ, sS]
            refine tk 5 (.int .i64 (k : Int)) rfl (.inl ⟨by rfl, ?_⟩) ?_
            · intro w9 hSw
              try dsimp only at hSw
              go_simp
              all_goals try decide
              all_goals try assumption
              all_goals try omega
            try simp only [Act.put, gA, gS, gZ, sA, sZ, sS]
            refine tk 6 (.bool true) rfl (.inl ⟨by rfl, ?_⟩) ?_
            · intro w9 hSw
              try dsimp only at hSw
              go_simp
              all_goals try decide
              all_goals try assumption
              all_goals try omega
            try simp only [Act.put, gA, gS, gZ, sA, sZ, sS]
            refine tk 7 (.bool true) rfl (.inl ⟨by rfl, ?_⟩) ?_
            · intro w9 hSw
              try dsimp only at hSw
              go_simp
              all_goals try decide
              all_goals try assumption
              all_goals try omega
            try simp only [Act.put, gA, gS, gZ, sA, sZ, sS]
            refine tk 8 (.slice (some ⟨eb, off, none⟩) N cap) rfl (.inl ⟨by rfl, ?_⟩) ?_
            · intro w9 hSw
              try dsimp only at hSw
              go_simp
              all_goals try decide
              all_goals try assumption
              all_goals try omega
            try simp only [Act.put, gA, gS, gZ, sA, sZ, sS]
            refine tk 9 (.int .i64 (k : Int)) rfl (.inl ⟨by rfl, ?_⟩) ?_
            · intro w9 hSw
              try dsimp only at hSw
              go_simp
              all_goals try decide
              all_goals try assumption
              all_goals try omega
            try simp only [Act.put, gA, gS, gZ, sA, sZ, sS]
            refine tk 10 (.pointer (some ⟨eb, off + k * 10, none⟩)) rfl (.inl ⟨by rfl, ?_⟩) ?_
            · intro w9 hSw
              try dsimp only at hSw
              go_simp
              all_goals try decide
              all_goals try assumption
              all_goals try omega
            try simp only [Act.put, gA, gS, gZ, sA, sZ, sS]
            refine tk 11 (.agg (enC i s nm t rt d ld cd l ll cl h lh ch tg gr)) rfl (.inl ⟨by rfl, ?_⟩) ?_
            · intro w9 hSw
              try dsimp only at hSw
              exact ex_load11 52 (.tmp 59) rfl _ _ rfl (LE.out _ (Below.andThen BR.out hSw.1))
            try simp only [Act.put, gA, gS, gZ, sA, sZ, sS]
            refine tk 12 (.pointer (some ⟨w.heap.size, 0, none⟩)) rfl (.inl ⟨by rfl, ?_⟩) ?_
            · intro w9 hSw
              try dsimp only at hSw
              go_simp
              all_goals try decide
              all_goals try assumption
              all_goals try omega
            try simp only [Act.put, gA, gS, gZ, sA, sZ, sS]
            refine tk 13 (.pointer (some ⟨w.heap.size, 0, none⟩)) rfl (.inl ⟨by rfl, ?_⟩) ?_
            · intro w9 hSw
              try dsimp only at hSw
              go_simp
              all_goals try decide
              all_goals try assumption
              all_goals try omega
            try simp only [Act.put, gA, gS, gZ, sA, sZ, sS]
            refine tk 14 (.pointer (some ⟨w.heap.size, 0, none⟩)) rfl (.inl ⟨by rfl, ?_⟩) ?_
            · intro w9 hSw
              try dsimp only at hSw
              go_simp
              all_goals try decide
              all_goals try assumption
              all_goals try omega
            try simp only [Act.put, gA, gS, gZ, sA, sZ, sS]
            refine tk 15 (.slice (some ⟨g, 0, none⟩) k vC) rfl (.inl ⟨by rfl, ?_⟩) ?_
            · intro w9 hSw
              try dsimp only at hSw
              go_simp
              all_goals try decide
              all_goals try assumption
              all_goals try omega
            try simp only [Act.put, gA, gS, gZ, sA, sZ, sS]
            refine tk 16 (.int .i64 (a : Int)) rfl (.inl ⟨by rfl, ?_⟩) ?_
            · intro w9 hSw
              try dsimp only at hSw
              go_simp
              all_goals try decide
              all_goals try assumption
              all_goals try omega
            try simp only [Act.put, gA, gS, gZ, sA, sZ, sS]
            refine tk 17 (.pointer (some ⟨g, a * 11, none⟩)) rfl (.inl ⟨by rfl, ?_⟩) ?_
            · intro w9 hSw
              try dsimp only at hSw
              go_simp
              all_goals try decide
              all_goals try assumption
              all_goals try omega
            try simp only [Act.put, gA, gS, gZ, sA, sZ, sS]
            refine tk 18 (.pointer (some ⟨g, a * 11, none⟩)) rfl (.inl ⟨by rfl, ?_⟩) ?_
            · intro w9 hSw
              try dsimp only at hSw
              go_simp
              all_goals try decide
              all_goals try assumption
              all_goals try omega
            try simp only [Act.put, gA, gS, gZ, sA, sZ, sS]
            refine tk 19 (.agg (enC i0 s0 nm0 t0 rt0 d0 ld0 cd0 l0 ll0 cl0 h0 lh0 ch0 tg0 gr0)) rfl (.inl ⟨by rfl, ?_⟩) ?_
            · intro w9 hSw
              try dsimp only at hSw
              exact ex_load11 52 (.tmp 67) rfl _ _ rfl (LX.out _ hSw.1)
            try simp only [Act.put, gA, gS, gZ, sA, sZ, sS]
            refine wpAnyH_ready (rs := [20]) (by kernel_rfl) (by simp) ?_
            refine AllReadyH.cons rfl (fun K' hK => ?_) AllReadyH.nil
            rw [if_pos (by rfl)]
            simp only [gA, gS, gZ]
            go_wp2_with fail
            refine (BG2.out _).mono ?_
            rintro e9 w5 ⟨rfl, hb5⟩
            try go_wp2_with fail
            refine hK.out _ _ (⟨Below.andThen hHeld.1 hb5, (hb5.cell (block_lt_of_cell hHeld.2)).trans hHeld.2⟩) (fun hHeld => ?_)
            clear hK K'
            try simp only [Act.put, gA, gS, gZ, sA, sZ, sS]
            refine tk 21 (.bool true) rfl (.inl ⟨by rfl, ?_⟩) ?_
            · intro w9 hSw
              try dsimp only at hSw
              go_simp
              all_goals try decide
              all_goals try assumption
              all_goals try omega
            try simp only [Act.put, gA, gS, gZ, sA, sZ, sS]
            refine tk 22 (.bool true) rfl (.inl ⟨by rfl, ?_⟩) ?_
            · intro w9 hSw
              try dsimp only at hSw
              go_simp
              all_goals try decide
              all_goals try assumption
              all_goals try omega
            try simp only [Act.put, gA, gS, gZ, sA, sZ, sS]
            refine wpAnyH_done (by kernel_rfl) ?_ _
            have B6 := hHeld.1
            clear hHeld
            go_wp2_with fail
            go_ret2
            exact Or.inr ⟨by rw [C6.out]; decide, by rw [C6.out]; rfl, Below.andThen BR.out B6⟩
          have BG2 : Hid (∀ W, Calls Tryz.prog 43 #[.agg (enC i s nm t rt d ld cd l ll cl h lh ch tg gr), .agg (enC i0 s0 nm0 t0 rt0 d0 ld0 cd0 l0 ll0 cl0 h0 lh0 ch0 tg0 gr0)] W fun e w' => e = .returned (.bool true) ∧ Below W.heap.size W w') := BG
          go_wp2_with fail
          refine wp_region_held_drew (S := fun x => Below wo.heap.size wo x ∧ x.cell? ⟨w.heap.size, 0, none⟩ = some (.slice (some ⟨g, 0, none⟩) k vC)) (by kernel_rfl) (⟨Below.drew HB.out, cq⟩) (fun hHeld => ?_)
          refine tk 0 (.int .i64 (a : Int)) rfl (.inl ⟨by rfl, ?_⟩) ?_
          · intro w9 hSw
            try dsimp only at hSw
            go_simp
            all_goals try decide
            all_goals try assumption
            all_goals try omega
          try simp only [Act.put, gA, gS, gZ, sA, sZ, sS]
          refine tk 1 (.pointer (some ⟨w.heap.size, 0, none⟩)) rfl (.inl ⟨by rfl, ?_⟩) ?_
          · intro w9 hSw
            try dsimp only at hSw
            go_simp
            all_goals try decide
            all_goals try assumption
            all_goals try omega
          try simp only [Act.put, gA, gS, gZ, sA, sZ, sS]
          refine tk 2 (.pointer (some ⟨w.heap.size, 0, none⟩)) rfl (.inl ⟨by rfl, ?_⟩) ?_
          · intro w9 hSw
            try dsimp only at hSw
            go_simp
            all_goals try decide
            all_goals try assumption
            all_goals try omega
          try simp only [Act.put, gA, gS, gZ, sA, sZ, sS]
          refine tk 3 (.pointer (some ⟨w.heap.size, 0, none⟩)) rfl (.inl ⟨by rfl, ?_⟩) ?_
          · intro w9 hSw
            try dsimp only at hSw
            go_simp
            all_goals try decide
            all_goals try assumption
            all_goals try omega
          try simp only [Act.put, gA, gS, gZ, sA, sZ, sS]
          refine tk 4 (.slice (some ⟨g, 0, none⟩) k vC) rfl (.inl ⟨by rfl, ?_⟩) ?_
          · intro w9 hSw
            try dsimp only at hSw
            go_simp
            all_goals try decide
            all_goals try assumption
            all_goals try omega
          try simp only [Act.put, gA, gS, gZ, sA, sZ, sS]
          refine tk 5 (.int .i64 (k : Int)) rfl (.inl ⟨by rfl, ?_⟩) ?_
          · intro w9 hSw
            try dsimp only at hSw
            go_simp
            all_goals try decide
            all_goals try assumption
            all_goals try omega
          try simp only [Act.put, gA, gS, gZ, sA, sZ, sS]
          refine tk 6 (.bool true) rfl (.inl ⟨by rfl, ?_⟩) ?_
          · intro w9 hSw
            try dsimp only at hSw
            go_simp
            all_goals try decide
            all_goals try assumption
            all_goals try omega
          try simp only [Act.put, gA, gS, gZ, sA, sZ, sS]
          refine tk 7 (.bool true) rfl (.inl ⟨by rfl, ?_⟩) ?_
          · intro w9 hSw
            try dsimp only at hSw
            go_simp
            all_goals try decide
            all_goals try assumption
            all_goals try omega
          try simp only [Act.put, gA, gS, gZ, sA, sZ, sS]
          refine tk 8 (.pointer (some ⟨w.heap.size, 0, none⟩)) rfl (.inl ⟨by rfl, ?_⟩) ?_
          · intro w9 hSw
            try dsimp only at hSw
            go_simp
            all_goals try decide
            all_goals try assumption
            all_goals try omega
          try simp only [Act.put, gA, gS, gZ, sA, sZ, sS]
          refine tk 9 (.pointer (some ⟨w.heap.size, 0, none⟩)) rfl (.inl ⟨by rfl, ?_⟩) ?_
          · intro w9 hSw
            try dsimp only at hSw
            go_simp
            all_goals try decide
            all_goals try assumption
            all_goals try omega
          try simp only [Act.put, gA, gS, gZ, sA, sZ, sS]
          refine tk 10 (.pointer (some ⟨w.heap.size, 0, none⟩)) rfl (.inl ⟨by rfl, ?_⟩) ?_
          · intro w9 hSw
            try dsimp only at hSw
            go_simp
            all_goals try decide
            all_goals try assumption
            all_goals try omega
          try simp only [Act.put, gA, gS, gZ, sA, sZ, sS]
          refine tk 11 (.slice (some ⟨g, 0, none⟩) k vC) rfl (.inl ⟨by rfl, ?_⟩) ?_
          · intro w9 hSw
            try dsimp only at hSw
            go_simp
            all_goals try decide
            all_goals try assumption
            all_goals try omega
          try simp only [Act.put, gA, gS, gZ, sA, sZ, sS]
          refine tk 12 (.int .i64 (a : Int)) rfl (.inl ⟨by rfl, ?_⟩) ?_
          · intro w9 hSw
            try dsimp only at hSw
            go_simp
            all_goals try decide
            all_goals try assumption
            all_goals try omega
          try simp only [Act.put, gA, gS, gZ, sA, sZ, sS]
          refine tk 13 (.pointer (some ⟨g, a * 11, none⟩)) rfl (.inl ⟨by rfl, ?_⟩) ?_
          · intro w9 hSw
            try dsimp only at hSw
            go_simp
            all_goals try decide
            all_goals try assumption
            all_goals try omega
          try simp only [Act.put, gA, gS, gZ, sA, sZ, sS]
          refine tk 14 (.pointer (some ⟨g, a * 11, none⟩)) rfl (.inl ⟨by rfl, ?_⟩) ?_
          · intro w9 hSw
            try dsimp only at hSw
            go_simp
            all_goals try decide
            all_goals try assumption
            all_goals try omega
          try simp only [Act.put, gA, gS, gZ, sA, sZ, sS]
          refine tk 15 (.agg (enC i0 s0 nm0 t0 rt0 d0 ld0 cd0 l0 ll0 cl0 h0 lh0 ch0 tg0 gr0)) rfl (.inl ⟨by rfl, ?_⟩) ?_
          · intro w9 hSw
            try dsimp only at hSw
            exact ex_load11 52 (.tmp 39) rfl _ _ rfl (LX.out _ hSw.1)
          try simp only [Act.put, gA, gS, gZ, sA, sZ, sS]
          refine tk 16 (.slice (some ⟨eb, off, none⟩) N cap) rfl (.inl ⟨by rfl, ?_⟩) ?_
          · intro w9 hSw
            try dsimp only at hSw
            go_simp
            all_goals try decide
            all_goals try assumption
            all_goals try omega
          try simp only [Act.put, gA, gS, gZ, sA, sZ, sS]
          refine tk 17 (.int .i64 (k : Int)) rfl (.inl ⟨by rfl, ?_⟩) ?_
          · intro w9 hSw
            try dsimp only at hSw
            go_simp
            all_goals try decide
            all_goals try assumption
            all_goals try omega
          try simp only [Act.put, gA, gS, gZ, sA, sZ, sS]
          refine tk 18 (.pointer (some ⟨eb, off + k * 10, none⟩)) rfl (.inl ⟨by rfl, ?_⟩) ?_
          · intro w9 hSw
            try dsimp only at hSw
            go_simp
            all_goals try decide
            all_goals try assumption
            all_goals try omega
          try simp only [Act.put, gA, gS, gZ, sA, sZ, sS]
          refine tk 19 (.agg (enC i s nm t rt d ld cd l ll cl h lh ch tg gr)) rfl (.inl ⟨by rfl, ?_⟩) ?_
          · intro w9 hSw
            try dsimp only at hSw
            exact ex_load11 52 (.tmp 43) rfl _ _ rfl (LE.out _ (Below.andThen BR.out hSw.1))
          try simp only [Act.put, gA, gS, gZ, sA, sZ, sS]
          refine wpAnyH_ready (rs := [20]) (by kernel_rfl) (by simp) ?_
          refine AllReadyH.cons rfl (fun K' hK => ?_) AllReadyH.nil
          rw [if_pos (by rfl)]
          simp only [gA, gS, gZ]
          go_wp2_with fail
          refine (BF.out _).mono ?_
          rintro e9 w5 ⟨rfl, hb5⟩
          try go_wp2_with fail
          refine hK.out _ _ (⟨Below.andThen hHeld.1 hb5, (hb5.cell (block_lt_of_cell hHeld.2)).trans hHeld.2⟩) (fun hHeld => ?_)
          clear hK K'
          try simp only [Act.put, gA, gS, gZ, sA, sZ, sS]
          refine tk 21 (.bool false) rfl (.inl ⟨by rfl, ?_⟩) ?_
          · intro w9 hSw
            try dsimp only at hSw
            go_simp
            all_goals try decide
            all_goals try assumption
            all_goals try omega
          try simp only [Act.put, gA, gS, gZ, sA, sZ, sS]
          refine wpAnyH_done (by kernel_rfl) ?_ _
          have H10 := hHeld
          clear hHeld
          go_wp2_with fail
          refine wp_region_held_drew (S := fun x => Below wo.heap.size wo x ∧ x.cell? ⟨w.heap.size, 0, none⟩ = some (.slice (some ⟨g, 0, none⟩) k vC)) (by kernel_rfl) (⟨Below.drew H10.1, H10.2⟩) (fun hHeld => ?_)
          refine tk 0 (.int .i64 (a : Int)) rfl (.inl ⟨by rfl, ?_⟩) ?_
          · intro w9 hSw
            try dsimp only at hSw
            go_simp
            all_goals try decide
            all_goals try assumption
            all_goals try omega
          try simp only [Act.put, gA, gS, gZ, sA, sZ, sS]
          refine tk 1 (.pointer (some ⟨w.heap.size, 0, none⟩)) rfl (.inl ⟨by rfl, ?_⟩) ?_
          · intro w9 hSw
            try dsimp only at hSw
            go_simp
            all_goals try decide
            all_goals try assumption
            all_goals try omega
          try simp only [Act.put, gA, gS, gZ, sA, sZ, sS]
          refine tk 2 (.pointer (some ⟨w.heap.size, 0, none⟩)) rfl (.inl ⟨by rfl, ?_⟩) ?_
          · intro w9 hSw
            try dsimp only at hSw
            go_simp
            all_goals try decide
            all_goals try assumption
            all_goals try omega
          try simp only [Act.put, gA, gS, gZ, sA, sZ, sS]
          refine tk 3 (.pointer (some ⟨w.heap.size, 0, none⟩)) rfl (.inl ⟨by rfl, ?_⟩) ?_
          · intro w9 hSw
            try dsimp only at hSw
            go_simp
            all_goals try decide
            all_goals try assumption
            all_goals try omega
          try simp only [Act.put, gA, gS, gZ, sA, sZ, sS]
          refine tk 4 (.slice (some ⟨g, 0, none⟩) k vC) rfl (.inl ⟨by rfl, ?_⟩) ?_
          · intro w9 hSw
            try dsimp only at hSw
            go_simp
            all_goals try decide
            all_goals try assumption
            all_goals try omega
          try simp only [Act.put, gA, gS, gZ, sA, sZ, sS]
          refine tk 5 (.int .i64 (k : Int)) rfl (.inl ⟨by rfl, ?_⟩) ?_
          · intro w9 hSw
            try dsimp only at hSw
            go_simp
            all_goals try decide
            all_goals try assumption
            all_goals try omega
          try simp only [Act.put, gA, gS, gZ, sA, sZ, sS]
          refine tk 6 (.bool true) rfl (.inl ⟨by rfl, ?_⟩) ?_
          · intro w9 hSw
            try dsimp only at hSw
            go_simp
            all_goals try decide
            all_goals try assumption
            all_goals try omega
          try simp only [Act.put, gA, gS, gZ, sA, sZ, sS]
          refine tk 7 (.bool true) rfl (.inl ⟨by rfl, ?_⟩) ?_
          · intro w9 hSw
            try dsimp only at hSw
            go_simp
            all_goals try decide
            all_goals try assumption
            all_goals try omega
          try simp only [Act.put, gA, gS, gZ, sA, sZ, sS]
          refine tk 8 (.slice (some ⟨eb, off, none⟩) N cap) rfl (.inl ⟨by rfl, ?_⟩) ?_
          · intro w9 hSw
            try dsimp only at hSw
            go_simp
            all_goals try decide
            all_goals try assumption
            all_goals try omega
          try simp only [Act.put, gA, gS, gZ, sA, sZ, sS]
          refine tk 9 (.int .i64 (k : Int)) rfl (.inl ⟨by rfl, ?_⟩) ?_
          · intro w9 hSw
            try dsimp only at hSw
            go_simp
            all_goals try decide
            all_goals try assumption
            all_goals try omega
          try simp only [Act.put, gA, gS, gZ, sA, sZ, sS]
          refine tk 10 (.pointer (some ⟨eb, off + k * 10, none⟩)) rfl (.inl ⟨by rfl, ?_⟩) ?_
          · intro w9 hSw
            try dsimp only at hSw
            go_simp
            all_goals try decide
            all_goals try assumption
            all_goals try omega
          try simp only [Act.put, gA, gS, gZ, sA, sZ, sS]
          refine tk 11 (.agg (enC i s nm t rt d ld cd l ll cl h lh ch tg gr)) rfl (.inl ⟨by rfl, ?_⟩) ?_
          · intro w9 hSw
            try dsimp only at hSw
            exact ex_load11 52 (.tmp 59) rfl _ _ rfl (LE.out _ (Below.andThen BR.out hSw.1))
          try simp only [Act.put, gA, gS, gZ, sA, sZ, sS]
          refine tk 12 (.pointer (some ⟨w.heap.size, 0, none⟩)) rfl (.inl ⟨by rfl, ?_⟩) ?_
          · intro w9 hSw
            try dsimp only at hSw
            go_simp
            all_goals try decide
            all_goals try assumption
            all_goals try omega
          try simp only [Act.put, gA, gS, gZ, sA, sZ, sS]
          refine tk 13 (.pointer (some ⟨w.heap.size, 0, none⟩)) rfl (.inl ⟨by rfl, ?_⟩) ?_
          · intro w9 hSw
            try dsimp only at hSw
            go_simp
            all_goals try decide
            all_goals try assumption
            all_goals try omega
          try simp only [Act.put, gA, gS, gZ, sA, sZ, sS]
          refine tk 14 (.pointer (some ⟨w.heap.size, 0, none⟩)) rfl (.inl ⟨by rfl, ?_⟩) ?_
          · intro w9 hSw
            try dsimp only at hSw
            go_simp
            all_goals try decide
            all_goals try assumption
            all_goals try omega
          try simp only [Act.put, gA, gS, gZ, sA, sZ, sS]
          refine tk 15 (.slice (some ⟨g, 0, none⟩) k vC) rfl (.inl ⟨by rfl, ?_⟩) ?_
          · intro w9 hSw
            try dsimp only at hSw
            go_simp
            all_goals try decide
            all_goals try assumption
            all_goals try omega
          try simp only [Act.put, gA, gS, gZ, sA, sZ, sS]
          refine tk 16 (.int .i64 (a : Int)) rfl (.inl ⟨by rfl, ?_⟩) ?_
          · intro w9 hSw
            try dsimp only at hSw
            go_simp
            all_goals try decide
            all_goals try assumption
            all_goals try omega
          try simp only [Act.put, gA, gS, gZ, sA, sZ, sS]
          refine tk 17 (.pointer (some ⟨g, a * 11, none⟩)) rfl (.inl ⟨by rfl, ?_⟩) ?_
          · intro w9 hSw
            try dsimp only at hSw
            go_simp
            all_goals try decide
            all_goals try assumption
            all_goals try omega
          try simp only [Act.put, gA, gS, gZ, sA, sZ, sS]
          refine tk 18 (.pointer (some ⟨g, a * 11, none⟩)) rfl (.inl ⟨by rfl, ?_⟩) ?_
          · intro w9 hSw
            try dsimp only at hSw
            go_simp
            all_goals try decide
            all_goals try assumption
            all_goals try omega
          try simp only [Act.put, gA, gS, gZ, sA, sZ, sS]
          refine tk 19 (.agg (enC i0 s0 nm0 t0 rt0 d0 ld0 cd0 l0 ll0 cl0 h0 lh0 ch0 tg0 gr0)) rfl (.inl ⟨by rfl, ?_⟩) ?_
          · intro w9 hSw
            try dsimp only at hSw
            exact ex_load11 52 (.tmp 67) rfl _ _ rfl (LX.out _ hSw.1)
          try simp only [Act.put, gA, gS, gZ, sA, sZ, sS]
          refine wpAnyH_ready (rs := [20]) (by kernel_rfl) (by simp) ?_
          refine AllReadyH.cons rfl (fun K' hK => ?_) AllReadyH.nil
          rw [if_pos (by rfl)]
          simp only [gA, gS, gZ]
          go_wp2_with fail
          refine (BG2.out _).mono ?_
          rintro e9 w5 ⟨rfl, hb5⟩
          try go_wp2_with fail
          refine hK.out _ _ (⟨Below.andThen hHeld.1 hb5, (hb5.cell (block_lt_of_cell hHeld.2)).trans hHeld.2⟩) (fun hHeld => ?_)
          clear hK K'
          try simp only [Act.put, gA, gS, gZ, sA, sZ, sS]
          refine tk 21 (.bool false) rfl (.inl ⟨by rfl, ?_⟩) ?_
          · intro w9 hSw
            try dsimp only at hSw
            go_simp
            all_goals try decide
            all_goals try assumption
            all_goals try omega
          try simp only [Act.put, gA, gS, gZ, sA, sZ, sS]
          refine tk 22 (.bool false) rfl (.inl ⟨by rfl, ?_⟩) ?_
          · intro w9 hSw
            try dsimp only at hSw
            go_simp
            all_goals try decide
            all_goals try assumption
            all_goals try omega
          try simp only [Act.put, gA, gS, gZ, sA, sZ, sS]
          refine wpAnyH_done (by kernel_rfl) ?_ _
          have B5 := hHeld.1
          have c5 := hHeld.2
          clear hHeld
          have SL1 := slice_lo (some (⟨g, 0, none⟩ : Addr)) k vC a (by have := KC.out; have := PK.out; omega)
          have SL2 := slice_hi (some (⟨g, 0, none⟩ : Addr)) k vC a PK.out
          have N1 := HR.out.news1 a PK.out B5
          go_wp2_with (refine wpList_append_items rfl (.tmp 72) (.tmp 78) rfl wo.heap.size (.slice none 0 0) [] rfl (isX_nil _ _) (some (⟨g, 0, none⟩ : Addr)) a vC (xs.take a) rfl (by rw [List.length_take]; have := HR.out.len; have := PK.out; omega) N1 (by simp) (by have := HK.out; have := PK.out; omega) B5.size ?_)
          intro v1 w6 hx1 hg1 hl9z
          have B6 := B5.grown hg1 B5.size (fun j hj => by cases hj)
          clear hg1 N1 B5 c5
          go_wp2_with fail
          obtain ⟨i8, hi8, hz8, hs8, -⟩ := info_parts infoX
          refine wp_region_held_drew (S := fun x => Below wo.heap.size wo x) (by kernel_rfl) (Below.drew B6) (fun hHeld => ?_)
          refine tk 0 (v1) rfl (.inl ⟨by rfl, ?_⟩) ?_
          · intro w9 hSw
            try dsimp only at hSw
            go_simp
            all_goals try decide
            all_goals try assumption
            all_goals try omega
          try simp only [Act.put, gA, gS, gZ, sA, sZ, sS]
          refine tk 1 (.slice (some ⟨eb, off, none⟩) N cap) rfl (.inl ⟨by rfl, ?_⟩) ?_
          · intro w9 hSw
            try dsimp only at hSw
            go_simp
            all_goals try decide
            all_goals try assumption
            all_goals try omega
          try simp only [Act.put, gA, gS, gZ, sA, sZ, sS]
          refine tk 2 (.int .i64 (k : Int)) rfl (.inl ⟨by rfl, ?_⟩) ?_
          · intro w9 hSw
            try dsimp only at hSw
            go_simp
            all_goals try decide
            all_goals try assumption
            all_goals try omega
          try simp only [Act.put, gA, gS, gZ, sA, sZ, sS]
          refine tk 3 (.pointer (some ⟨eb, off + k * 10, none⟩)) rfl (.inl ⟨by rfl, ?_⟩) ?_
          · intro w9 hSw
            try dsimp only at hSw
            go_simp
            all_goals try decide
            all_goals try assumption
            all_goals try omega
          try simp only [Act.put, gA, gS, gZ, sA, sZ, sS]
          refine tk 4 (.agg (enC i s nm t rt d ld cd l ll cl h lh ch tg gr)) rfl (.inl ⟨by rfl, ?_⟩) ?_
          · intro w9 hSw
            try dsimp only at hSw
            exact ex_load11 52 (.tmp 83) rfl _ _ rfl (LE.out _ (Below.andThen BR.out hSw))
          try simp only [Act.put, gA, gS, gZ, sA, sZ, sS]
          refine tk 5 (.slice (some ⟨eb, off, none⟩) N cap) rfl (.inl ⟨by rfl, ?_⟩) ?_
          · intro w9 hSw
            try dsimp only at hSw
            go_simp
            all_goals try decide
            all_goals try assumption
            all_goals try omega
          try simp only [Act.put, gA, gS, gZ, sA, sZ, sS]
          refine tk 6 (.int .i64 (k : Int)) rfl (.inl ⟨by rfl, ?_⟩) ?_
          · intro w9 hSw
            try dsimp only at hSw
            go_simp
            all_goals try decide
            all_goals try assumption
            all_goals try omega
          try simp only [Act.put, gA, gS, gZ, sA, sZ, sS]
          refine tk 7 (.pointer (some ⟨eb, off + k * 10, none⟩)) rfl (.inl ⟨by rfl, ?_⟩) ?_
          · intro w9 hSw
            try dsimp only at hSw
            go_simp
            all_goals try decide
            all_goals try assumption
            all_goals try omega
          try simp only [Act.put, gA, gS, gZ, sA, sZ, sS]
          refine tk 8 (.agg (enC i s nm t rt d ld cd l ll cl h lh ch tg gr)) rfl (.inl ⟨by rfl, ?_⟩) ?_
          · intro w9 hSw
            try dsimp only at hSw
            exact ex_load11 52 (.tmp 87) rfl _ _ rfl (LE.out _ (Below.andThen BR.out hSw))
          try simp only [Act.put, gA, gS, gZ, sA, sZ, sS]
          refine wpAnyH_ready (rs := [9]) (by kernel_rfl) (by simp) ?_
          refine AllReadyH.cons rfl (fun K' hK => ?_) AllReadyH.nil
          rw [if_pos (by rfl)]
          simp only [gA, gS, gZ]
          go_wp2_with fail
          refine (HFI.out _ (Below.andThen BR.out hHeld)).mono ?_
          rintro e9 z3 ⟨fa, fn, fc, rfl, hq3, hb3⟩
          try go_wp2_with fail
          refine hK.out _ _ (Below.andThen hHeld hb3) (fun hHeld => ?_)
          clear hK K'
          try simp only [Act.put, gA, gS, gZ, sA, sZ, sS]
          have B7 := hHeld
          have X7 := hx1.next (Below.andThen (Below.drew (Below.refl _ _)) hb3)
          clear hb3
          have L7 : ∀ j, v1.ownBlock = some j → j < w6.heap.size := fun j hj => (hx1.lt j hj).2
          refine tk 10 (.agg (itC i s nm t rt d ld cd l ll cl h lh ch tg gr fa fn fc)) rfl (.inl ⟨by rfl, ?_⟩) ?_
          · intro w9 hSw
            try dsimp only at hSw
            go_simp
            all_goals try decide
            all_goals try assumption
            all_goals try omega
          try simp only [Act.put, gA, gS, gZ, sA, sZ, sS]
          refine wpAnyH_ready (rs := [11]) (by kernel_rfl) (by simp) ?_
          refine AllReadyH.cons rfl (fun K' hK => ?_) AllReadyH.nil
          rw [if_pos (by rfl)]
          simp only [gA, gS, gZ]
          refine wp_buildSlice 82 86 1 _ rfl (itC i s nm t rt d ld cd l ll cl h lh ch tg gr fa fn fc) i8 _ Tryz.underlying82 hi8 hz8 (by rw [hs8]; decide) (by rw [hs8]; decide) (by rw [hs8]; kernel_rfl) ?_
          refine hK.out _ _ (Below.al hHeld _) (fun hHeld => ?_)
          clear hK K'
          try simp only [Act.put, gA, gS, gZ, sA, sZ, sS]
          have X8 := X7.next (Below.al (Below.refl _ _) (.cells (itC i s nm t rt d ld cd l ll cl h lh ch tg gr fa fn fc) 86))
          have Y8 := item_cells (ofE ⟨i, s, nm, t, rt, d, ld, cd, l, ll, cl, h, lh, ch, tg, gr, zd, zl, zh⟩ fa fn fc) (at11 z3 (.cells (itC i s nm t rt d ld cd l ll cl h lh ch tg gr fa fn fc) 86) _ rfl)
          refine wpAnyH_ready (rs := [12]) (by kernel_rfl) (by simp) ?_
          refine AllReadyH.cons rfl (fun K' hK => ?_) AllReadyH.nil
          rw [if_pos (by rfl)]
          simp only [gA, gS, gZ]
          refine wp_append_item1 (.tmp 80) (.tmp 91) rfl wo.heap.size v1 _ rfl X8 ⟨z3.heap.size, 0, none⟩ (ofE ⟨i, s, nm, t, rt, d, ld, cd, l, ll, cl, h, lh, ch, tg, gr, zd, zl, zh⟩ fa fn fc) rfl Y8 (by rw [List.length_take]; have := HR.out.len; have := HK.out; omega) hHeld.size ?_
          intro v2 w8 hx2 hg2 hl2
          refine hK.out _ _ (hHeld.grown hg2 hHeld.size (fun j hj => (X8.lt j hj).1)) (fun hHeld => ?_)
          clear hK K'
          try simp only [Act.put, gA, gS, gZ, sA, sZ, sS]
          refine tk 13 (v2) rfl (.inl ⟨by rfl, ?_⟩) ?_
          · intro w9 hSw
            try dsimp only at hSw
            go_simp
            all_goals try decide
            all_goals try assumption
            all_goals try omega
          try simp only [Act.put, gA, gS, gZ, sA, sZ, sS]
          refine wpAnyH_done (by kernel_rfl) ?_ _
          have B8 := hHeld
          clear hHeld
          have c8 := CQ.out _ B8
          have N2 := HR.out.news2 a PK.out B8
          obtain ⟨aH, HAH⟩ : ∃ z : Option Addr, Hid (z = if vC = a then (some (⟨g, 0, none⟩ : Addr)) else (some (⟨g, 0, none⟩ : Addr)).map (·.add (a * 11))) := ⟨_, rfl⟩
          rw [← HAH.out] at N2
          rw [← HAH.out] at SL2
          go_wp2_with (refine wpList_append_items rfl (.tmp 93) (.tmp 99) rfl wo.heap.size v2 _ rfl hx2 aH (k - a) (vC - a) (xs.drop a) rfl (by rw [List.length_drop]; have := HR.out.len; omega) N2 (by have := HK.out; have := HR.out.len; simp; omega) (by have := HK.out; omega) B8.size ?_)
          intro v3 w9 hx3 hg3 hl3
          have B9 := B8.grown hg3 B8.size (fun j hj => (hx2.lt j hj).1)
          clear N2 c8
          have c9 := CQ.out _ B9
          have f9 := froz11 w9 w.heap.size 0 _ _ (blk11 B9 HR.out.p)
          obtain ⟨vA3, vN3, vC3, rfl⟩ := hx3.form3
          have S9 : SlOk w9 fa fn fc (firstL t zd) := hq3.twice (Below.al (Below.refl _ _) _) hg2 hg3 L7 hl2
          have l9 : w.heap.size < w9.heap.size := by have := B9.size; omega
          have st := HR.out.step HE.out HQ.out HU.out B9 S9 (by rw [HP.out]; exact hx3) (hq3.off3 (by simp) hg2.size L7 hl2 hl3)
          obtain ⟨S', vA', vC', xs', hst⟩ := st
          have wk : IntKind.i64.wrap ((k : Int) + 1) = ((k + 1 : Nat) : Int) := by rw [IntKind.wrap_i64]; have := HK.out; omega
          go_wp2_with fail
          exact ⟨⟨k + 1, S', vA', vC', xs', by have := HK.out; omega, by go_num, hst⟩, by simp [intOf]; have := HK.out; omega⟩
        · have hak' : ¬ (a : Int) < (k : Int) := by omega
          obtain rfl : u = false := by
            rw [← HU.out]
            unfold twiE
            rw [HP.out, List.getElem?_eq_none (by have := HR.out.l; omega)]
          go_wp2_with fail
          refine wp_region_held_drew (S := fun x => Below wo.heap.size wo x ∧ x.cell? ⟨w.heap.size, 0, none⟩ = some (.slice vA k vC)) (by kernel_rfl) (⟨Below.drew HB.out, cq⟩) (fun hHeld => ?_)
          refine tk 0 (.int .i64 (a : Int)) rfl (.inl ⟨by rfl, ?_⟩) ?_
          · intro w9 hSw
            try dsimp only at hSw
            go_simp
            all_goals try decide
            all_goals try assumption
            all_goals try omega
          try simp only [Act.put, gA, gS, gZ, sA, sZ, sS]
          refine tk 1 (.pointer (some ⟨w.heap.size, 0, none⟩)) rfl (.inl ⟨by rfl, ?_⟩) ?_
          · intro w9 hSw
            try dsimp only at hSw
            go_simp
            all_goals try decide
            all_goals try assumption
            all_goals try omega
          try simp only [Act.put, gA, gS, gZ, sA, sZ, sS]
          refine tk 2 (.pointer (some ⟨w.heap.size, 0, none⟩)) rfl (.inl ⟨by rfl, ?_⟩) ?_
          · intro w9 hSw
            try dsimp only at hSw
            go_simp
            all_goals try decide
            all_goals try assumption
            all_goals try omega
          try simp only [Act.put, gA, gS, gZ, sA, sZ, sS]
          refine tk 3 (.pointer (some ⟨w.heap.size, 0, none⟩)) rfl (.inl ⟨by rfl, ?_⟩) ?_
          · intro w9 hSw
            try dsimp only at hSw
            go_simp
            all_goals try decide
            all_goals try assumption
            all_goals try omega
          try simp only [Act.put, gA, gS, gZ, sA, sZ, sS]
          refine tk 4 (.slice vA k vC) rfl (.inl ⟨by rfl, ?_⟩) ?_
          · intro w9 hSw
            try dsimp only at hSw
            go_simp
            all_goals try decide
            all_goals try assumption
            all_goals try omega
          try simp only [Act.put, gA, gS, gZ, sA, sZ, sS]
          refine tk 5 (.int .i64 (k : Int)) rfl (.inl ⟨by rfl, ?_⟩) ?_
          · intro w9 hSw
            try dsimp only at hSw
            go_simp
            all_goals try decide
            all_goals try assumption
            all_goals try omega
          try simp only [Act.put, gA, gS, gZ, sA, sZ, sS]
          refine tk 6 (.bool false) rfl (.inl ⟨by rfl, ?_⟩) ?_
          · intro w9 hSw
            try dsimp only at hSw
            go_simp
            all_goals try decide
            all_goals try assumption
            all_goals try omega
          try simp only [Act.put, gA, gS, gZ, sA, sZ, sS]
          refine tk 7 (.bool false) rfl (.inl ⟨by rfl, ?_⟩) ?_
          · intro w9 hSw
            try dsimp only at hSw
            go_simp
            all_goals try decide
            all_goals try assumption
            all_goals try omega
          try simp only [Act.put, gA, gS, gZ, sA, sZ, sS]
          refine tk 8 undef rfl (.inr ⟨by rfl, rfl⟩) ?_
          try simp only [Act.put, gA, gS, gZ, sA, sZ, sS]
          refine tk 9 undef rfl (.inr ⟨by rfl, rfl⟩) ?_
          try simp only [Act.put, gA, gS, gZ, sA, sZ, sS]
          refine tk 10 undef rfl (.inr ⟨by rfl, rfl⟩) ?_
          try simp only [Act.put, gA, gS, gZ, sA, sZ, sS]
          refine tk 11 undef rfl (.inr ⟨by rfl, rfl⟩) ?_
          try simp only [Act.put, gA, gS, gZ, sA, sZ, sS]
          refine tk 12 undef rfl (.inr ⟨by rfl, rfl⟩) ?_
          try simp only [Act.put, gA, gS, gZ, sA, sZ, sS]
          refine tk 13 undef rfl (.inr ⟨by rfl, rfl⟩) ?_
          try simp only [Act.put, gA, gS, gZ, sA, sZ, sS]
          refine tk 14 undef rfl (.inr ⟨by rfl, rfl⟩) ?_
          try simp only [Act.put, gA, gS, gZ, sA, sZ, sS]
          refine tk 15 undef rfl (.inr ⟨by rfl, rfl⟩) ?_
          try simp only [Act.put, gA, gS, gZ, sA, sZ, sS]
          refine tk 16 undef rfl (.inr ⟨by rfl, rfl⟩) ?_
          try simp only [Act.put, gA, gS, gZ, sA, sZ, sS]
          refine tk 17 undef rfl (.inr ⟨by rfl, rfl⟩) ?_
          try simp only [Act.put, gA, gS, gZ, sA, sZ, sS]
          refine tk 18 undef rfl (.inr ⟨by rfl, rfl⟩) ?_
          try simp only [Act.put, gA, gS, gZ, sA, sZ, sS]
          refine tk 19 undef rfl (.inr ⟨by rfl, rfl⟩) ?_
          try simp only [Act.put, gA, gS, gZ, sA, sZ, sS]
          refine tk 20 undef rfl (.inr ⟨by rfl, rfl⟩) ?_
          try simp only [Act.put, gA, gS, gZ, sA, sZ, sS]
          refine tk 21 (.bool false) rfl (.inl ⟨by rfl, ?_⟩) ?_
          · intro w9 hSw
            try dsimp only at hSw
            go_simp
            all_goals try decide
            all_goals try assumption
            all_goals try omega
          try simp only [Act.put, gA, gS, gZ, sA, sZ, sS]
          refine wpAnyH_done (by kernel_rfl) ?_ _
          have H10 := hHeld
          clear hHeld
          go_wp2_with fail
          refine wp_region_held_drew (S := fun x => Below wo.heap.size wo x ∧ x.cell? ⟨w.heap.size, 0, none⟩ = some (.slice vA k vC)) (by kernel_rfl) (⟨Below.drew H10.1, H10.2⟩) (fun hHeld => ?_)
          refine tk 0 (.int .i64 (a : Int)) rfl (.inl ⟨by rfl, ?_⟩) ?_
          · intro w9 hSw
            try dsimp only at hSw
            go_simp
            all_goals try decide
            all_goals try assumption
            all_goals try omega
          try simp only [Act.put, gA, gS, gZ, sA, sZ, sS]
          refine tk 1 (.pointer (some ⟨w.heap.size, 0, none⟩)) rfl (.inl ⟨by rfl, ?_⟩) ?_
          · intro w9 hSw
            try dsimp only at hSw
            go_simp
            all_goals try decide
            all_goals try assumption
            all_goals try omega
          try simp only [Act.put, gA, gS, gZ, sA, sZ, sS]
          refine tk 2 (.pointer (some ⟨w.heap.size, 0, none⟩)) rfl (.inl ⟨by rfl, ?_⟩) ?_
          · intro w9 hSw
            try dsimp only at hSw
            go_simp
            all_goals try decide
            all_goals try assumption
            all_goals try omega
          try simp only [Act.put, gA, gS, gZ, sA, sZ, sS]
          refine tk 3 (.pointer (some ⟨w.heap.size, 0, none⟩)) rfl (.inl ⟨by rfl, ?_⟩) ?_
          · intro w9 hSw
            try dsimp only at hSw
            go_simp
            all_goals try decide
            all_goals try assumption
            all_goals try omega
          try simp only [Act.put, gA, gS, gZ, sA, sZ, sS]
          refine tk 4 (.slice vA k vC) rfl (.inl ⟨by rfl, ?_⟩) ?_
          · intro w9 hSw
            try dsimp only at hSw
            go_simp
            all_goals try decide
            all_goals try assumption
            all_goals try omega
          try simp only [Act.put, gA, gS, gZ, sA, sZ, sS]
          refine tk 5 (.int .i64 (k : Int)) rfl (.inl ⟨by rfl, ?_⟩) ?_
          · intro w9 hSw
            try dsimp only at hSw
            go_simp
            all_goals try decide
            all_goals try assumption
            all_goals try omega
          try simp only [Act.put, gA, gS, gZ, sA, sZ, sS]
          refine tk 6 (.bool false) rfl (.inl ⟨by rfl, ?_⟩) ?_
          · intro w9 hSw
            try dsimp only at hSw
            go_simp
            all_goals try decide
            all_goals try assumption
            all_goals try omega
          try simp only [Act.put, gA, gS, gZ, sA, sZ, sS]
          refine tk 7 (.bool false) rfl (.inl ⟨by rfl, ?_⟩) ?_
          · intro w9 hSw
            try dsimp only at hSw
            go_simp
            all_goals try decide
            all_goals try assumption
            all_goals try omega
          try simp only [Act.put, gA, gS, gZ, sA, sZ, sS]
          refine tk 8 undef rfl (.inr ⟨by rfl, rfl⟩) ?_
          try simp only [Act.put, gA, gS, gZ, sA, sZ, sS]
          refine tk 9 undef rfl (.inr ⟨by rfl, rfl⟩) ?_
          try simp only [Act.put, gA, gS, gZ, sA, sZ, sS]
          refine tk 10 undef rfl (.inr ⟨by rfl, rfl⟩) ?_
          try simp only [Act.put, gA, gS, gZ, sA, sZ, sS]
          refine tk 11 undef rfl (.inr ⟨by rfl, rfl⟩) ?_
          try simp only [Act.put, gA, gS, gZ, sA, sZ, sS]
          refine tk 12 undef rfl (.inr ⟨by rfl, rfl⟩) ?_
          try simp only [Act.put, gA, gS, gZ, sA, sZ, sS]
          refine tk 13 undef rfl (.inr ⟨by rfl, rfl⟩) ?_
          try simp only [Act.put, gA, gS, gZ, sA, sZ, sS]
          refine tk 14 undef rfl (.inr ⟨by rfl, rfl⟩) ?_
          try simp only [Act.put, gA, gS, gZ, sA, sZ, sS]
          refine tk 15 undef rfl (.inr ⟨by rfl, rfl⟩) ?_
          try simp only [Act.put, gA, gS, gZ, sA, sZ, sS]
          refine tk 16 undef rfl (.inr ⟨by rfl, rfl⟩) ?_
          try simp only [Act.put, gA, gS, gZ, sA, sZ, sS]
          refine tk 17 undef rfl (.inr ⟨by rfl, rfl⟩) ?_
          try simp only [Act.put, gA, gS, gZ, sA, sZ, sS]
          refine tk 18 undef rfl (.inr ⟨by rfl, rfl⟩) ?_
          try simp only [Act.put, gA, gS, gZ, sA, sZ, sS]
          refine tk 19 undef rfl (.inr ⟨by rfl, rfl⟩) ?_
          try simp only [Act.put, gA, gS, gZ, sA, sZ, sS]
          refine tk 20 undef rfl (.inr ⟨by rfl, rfl⟩) ?_
          try simp only [Act.put, gA, gS, gZ, sA, sZ, sS]
          refine tk 21 undef rfl (.inr ⟨by rfl, rfl⟩) ?_
          try simp only [Act.put, gA, gS, gZ, sA, sZ, sS]
          refine tk 22 (.bool false) rfl (.inl ⟨by rfl, ?_⟩) ?_
          · intro w9 hSw
            try dsimp only at hSw
            go_simp
            all_goals try decide
            all_goals try assumption
            all_goals try omega
          try simp only [Act.put, gA, gS, gZ, sA, sZ, sS]
          refine wpAnyH_done (by kernel_rfl) ?_ _
          have B5 := hHeld.1
          have c5 := hHeld.2
          clear hHeld
          have SL1 := slice_lo vA k vC a (by have := KC.out; have := PK.out; omega)
          have SL2 := slice_hi vA k vC a PK.out
          have N1 := HR.out.news1 a PK.out B5
          go_wp2_with (refine wpList_append_items rfl (.tmp 72) (.tmp 78) rfl wo.heap.size (.slice none 0 0) [] rfl (isX_nil _ _) vA a vC (xs.take a) rfl (by rw [List.length_take]; have := HR.out.len; have := PK.out; omega) N1 (by simp) (by have := HK.out; have := PK.out; omega) B5.size ?_)
          intro v1 w6 hx1 hg1 hl9z
          have B6 := B5.grown hg1 B5.size (fun j hj => by cases hj)
          clear hg1 N1 B5 c5
          go_wp2_with fail
          obtain ⟨i8, hi8, hz8, hs8, -⟩ := info_parts infoX
          refine wp_region_held_drew (S := fun x => Below wo.heap.size wo x) (by kernel_rfl) (Below.drew B6) (fun hHeld => ?_)
          refine tk 0 (v1) rfl (.inl ⟨by rfl, ?_⟩) ?_
          · intro w9 hSw
            try dsimp only at hSw
            go_simp
            all_goals try decide
            all_goals try assumption
            all_goals try omega
          try simp only [Act.put, gA, gS, gZ, sA, sZ, sS]
          refine tk 1 (.slice (some ⟨eb, off, none⟩) N cap) rfl (.inl ⟨by rfl, ?_⟩) ?_
          · intro w9 hSw
            try dsimp only at hSw
            go_simp
            all_goals try decide
            all_goals try assumption
            all_goals try omega
          try simp only [Act.put, gA, gS, gZ, sA, sZ, sS]
          refine tk 2 (.int .i64 (k : Int)) rfl (.inl ⟨by rfl, ?_⟩) ?_
          · intro w9 hSw
            try dsimp only at hSw
            go_simp
            all_goals try decide
            all_goals try assumption
            all_goals try omega
          try simp only [Act.put, gA, gS, gZ, sA, sZ, sS]
          refine tk 3 (.pointer (some ⟨eb, off + k * 10, none⟩)) rfl (.inl ⟨by rfl, ?_⟩) ?_
          · intro w9 hSw
            try dsimp only at hSw
            go_simp
            all_goals try decide
            all_goals try assumption
            all_goals try omega
          try simp only [Act.put, gA, gS, gZ, sA, sZ, sS]
          refine tk 4 (.agg (enC i s nm t rt d ld cd l ll cl h lh ch tg gr)) rfl (.inl ⟨by rfl, ?_⟩) ?_
          · intro w9 hSw
            try dsimp only at hSw
            exact ex_load11 52 (.tmp 83) rfl _ _ rfl (LE.out _ (Below.andThen BR.out hSw))
          try simp only [Act.put, gA, gS, gZ, sA, sZ, sS]
          refine tk 5 (.slice (some ⟨eb, off, none⟩) N cap) rfl (.inl ⟨by rfl, ?_⟩) ?_
          · intro w9 hSw
            try dsimp only at hSw
            go_simp
            all_goals try decide
            all_goals try assumption
            all_goals try omega
          try simp only [Act.put, gA, gS, gZ, sA, sZ, sS]
          refine tk 6 (.int .i64 (k : Int)) rfl (.inl ⟨by rfl, ?_⟩) ?_
          · intro w9 hSw
            try dsimp only at hSw
            go_simp
            all_goals try decide
            all_goals try assumption
            all_goals try omega
          try simp only [Act.put, gA, gS, gZ, sA, sZ, sS]
          refine tk 7 (.pointer (some ⟨eb, off + k * 10, none⟩)) rfl (.inl ⟨by rfl, ?_⟩) ?_
          · intro w9 hSw
            try dsimp only at hSw
            go_simp
            all_goals try decide
            all_goals try assumption
            all_goals try omega
          try simp only [Act.put, gA, gS, gZ, sA, sZ, sS]
          refine tk 8 (.agg (enC i s nm t rt d ld cd l ll cl h lh ch tg gr)) rfl (.inl ⟨by rfl, ?_⟩) ?_
          · intro w9 hSw
            try dsimp only at hSw
            exact ex_load11 52 (.tmp 87) rfl _ _ rfl (LE.out _ (Below.andThen BR.out hSw))
          try simp only [Act.put, gA, gS, gZ, sA, sZ, sS]
          refine wpAnyH_ready (rs := [9]) (by kernel_rfl) (by simp) ?_
          refine AllReadyH.cons rfl (fun K' hK => ?_) AllReadyH.nil
          rw [if_pos (by rfl)]
          simp only [gA, gS, gZ]
          go_wp2_with fail
          refine (HFI.out _ (Below.andThen BR.out hHeld)).mono ?_
          rintro e9 z3 ⟨fa, fn, fc, rfl, hq3, hb3⟩
          try go_wp2_with fail
          refine hK.out _ _ (Below.andThen hHeld hb3) (fun hHeld => ?_)
          clear hK K'
          try simp only [Act.put, gA, gS, gZ, sA, sZ, sS]
          have B7 := hHeld
          have X7 := hx1.next (Below.andThen (Below.drew (Below.refl _ _)) hb3)
          clear hb3
          have L7 : ∀ j, v1.ownBlock = some j → j < w6.heap.size := fun j hj => (hx1.lt j hj).2
          refine tk 10 (.agg (itC i s nm t rt d ld cd l ll cl h lh ch tg gr fa fn fc)) rfl (.inl ⟨by rfl, ?_⟩) ?_
          · intro w9 hSw
            try dsimp only at hSw
            go_simp
            all_goals try decide
            all_goals try assumption
            all_goals try omega
          try simp only [Act.put, gA, gS, gZ, sA, sZ, sS]
          refine wpAnyH_ready (rs := [11]) (by kernel_rfl) (by simp) ?_
          refine AllReadyH.cons rfl (fun K' hK => ?_) AllReadyH.nil
          rw [if_pos (by rfl)]
          simp only [gA, gS, gZ]
          refine wp_buildSlice 82 86 1 _ rfl (itC i s nm t rt d ld cd l ll cl h lh ch tg gr fa fn fc) i8 _ Tryz.underlying82 hi8 hz8 (by rw [hs8]; decide) (by rw [hs8]; decide) (by rw [hs8]; kernel_rfl) ?_
          refine hK.out _ _ (Below.al hHeld _) (fun hHeld => ?_)
          clear hK K'
          try simp only [Act.put, gA, gS, gZ, sA, sZ, sS]
          have X8 := X7.next (Below.al (Below.refl _ _) (.cells (itC i s nm t rt d ld cd l ll cl h lh ch tg gr fa fn fc) 86))
          have Y8 := item_cells (ofE ⟨i, s, nm, t, rt, d, ld, cd, l, ll, cl, h, lh, ch, tg, gr, zd, zl, zh⟩ fa fn fc) (at11 z3 (.cells (itC i s nm t rt d ld cd l ll cl h lh ch tg gr fa fn fc) 86) _ rfl)
          refine wpAnyH_ready (rs := [12]) (by kernel_rfl) (by simp) ?_
          refine AllReadyH.cons rfl (fun K' hK => ?_) AllReadyH.nil
          rw [if_pos (by rfl)]
          simp only [gA, gS, gZ]
          refine wp_append_item1 (.tmp 80) (.tmp 91) rfl wo.heap.size v1 _ rfl X8 ⟨z3.heap.size, 0, none⟩ (ofE ⟨i, s, nm, t, rt, d, ld, cd, l, ll, cl, h, lh, ch, tg, gr, zd, zl, zh⟩ fa fn fc) rfl Y8 (by rw [List.length_take]; have := HR.out.len; have := HK.out; omega) hHeld.size ?_
          intro v2 w8 hx2 hg2 hl2
          refine hK.out _ _ (hHeld.grown hg2 hHeld.size (fun j hj => (X8.lt j hj).1)) (fun hHeld => ?_)
          clear hK K'
          try simp only [Act.put, gA, gS, gZ, sA, sZ, sS]
          refine tk 13 (v2) rfl (.inl ⟨by rfl, ?_⟩) ?_
          · intro w9 hSw
            try dsimp only at hSw
            go_simp
            all_goals try decide
            all_goals try assumption
            all_goals try omega
          try simp only [Act.put, gA, gS, gZ, sA, sZ, sS]
          refine wpAnyH_done (by kernel_rfl) ?_ _
          have B8 := hHeld
          clear hHeld
          have c8 := CQ.out _ B8
          have N2 := HR.out.news2 a PK.out B8
          obtain ⟨aH, HAH⟩ : ∃ z : Option Addr, Hid (z = if vC = a then vA else vA.map (·.add (a * 11))) := ⟨_, rfl⟩
          rw [← HAH.out] at N2
          rw [← HAH.out] at SL2
          go_wp2_with (refine wpList_append_items rfl (.tmp 93) (.tmp 99) rfl wo.heap.size v2 _ rfl hx2 aH (k - a) (vC - a) (xs.drop a) rfl (by rw [List.length_drop]; have := HR.out.len; omega) N2 (by have := HK.out; have := HR.out.len; simp; omega) (by have := HK.out; omega) B8.size ?_)
          intro v3 w9 hx3 hg3 hl3
          have B9 := B8.grown hg3 B8.size (fun j hj => (hx2.lt j hj).1)
          clear N2 c8
          have c9 := CQ.out _ B9
          have f9 := froz11 w9 w.heap.size 0 _ _ (blk11 B9 HR.out.p)
          obtain ⟨vA3, vN3, vC3, rfl⟩ := hx3.form3
          have S9 : SlOk w9 fa fn fc (firstL t zd) := hq3.twice (Below.al (Below.refl _ _) _) hg2 hg3 L7 hl2
          have l9 : w.heap.size < w9.heap.size := by have := B9.size; omega
          have st := HR.out.step HE.out HQ.out HU.out B9 S9 (by rw [HP.out]; exact hx3) (hq3.off3 (by simp) hg2.size L7 hl2 hl3)
          obtain ⟨S', vA', vC', xs', hst⟩ := st
          have wk : IntKind.i64.wrap ((k : Int) + 1) = ((k + 1 : Nat) : Int) := by rw [IntKind.wrap_i64]; have := HK.out; omega
          go_wp2_with fail
          exact ⟨⟨k + 1, S', vA', vC', xs', by have := HK.out; omega, by go_num, hst⟩, by simp [intOf]; have := HK.out; omega⟩
    · obtain rfl : k = N := by omega
      have HZ : Hid (docG [] es = (0, S)) := by
        show _ = _
        rw [HR.out.g, List.drop_of_length_le (by have := HN.out; omega)]
        rfl
      have C0 : newC es = 0 := by rw [NC.out, HZ.out]
      obtain ⟨z1, z2, z3⟩ := docG_row es [] List.Pairwise.nil (by rw [HZ.out])
      have fin : SortE (docG [] es).2 ∧ (∀ x, x ∈ (docG [] es).2 ↔ x ∈ es) ∧ DocX wo xs (docG [] es).2 ∧ xs.length = es.length := ⟨z1, fun x => by rw [z2]; simp, by rw [HZ.out]; exact HR.out.d, by rw [HR.out.len]; exact HN.out.symm⟩
      have FIN : Hid (SortE (docG [] es).2 ∧ (∀ x, x ∈ (docG [] es).2 ↔ x ∈ es) ∧ DocX wo xs (docG [] es).2 ∧ xs.length = es.length) := fin
      clear z1 z2 z3 fin
      go_wp2_with fail
      go_ret2
      exact Or.inl ⟨C0, w.heap.size, _, xs, rfl, Nat.le_refl _, BR.out, HR.out.p, HR.out.x, FIN.out.1, FIN.out.2.1, FIN.out.2.2.1, FIN.out.2.2.2, HR.out.o⟩
#print axioms rnew_any
end Go.Proofs.YtajllkkbgpijiaaGreatDoor
namespace Go.Proofs.YtajllkkbgpijiaaGreatDoor
open Go.RowKit

set_option linter.unusedSimpArgs false in
set_option maxHeartbeats 4000000 in
set_option maxRecDepth 100000 in
theorem mcheck_bad (out : Bool) (p m : Nat) (cg : Int) (lst : Mp) (i s b : Int) (nm : ByteArray) (t rt : Int) (d : Option Addr) (ld cd : Nat) (l : Option Addr) (ll cl : Nat) (h : Option Addr) (lh ch : Nat) (tg gr : Int) (v : Option Addr) (lv cv : Nat) (zd zl zh : List Int) (w : World) (hp : w.heap[p]? = some (.cells #[.map (some m), .int .i64 cg] 91 (0, 0))) (hm : IsM w m lst) (hl : lookP lst i s = some (.agg (itC i s nm t rt d ld cd l ll cl h lh ch tg gr v lv cv))) (rd : SlOk w d ld cd zd) (rl : SlOk w l ll cl zl) (rh : SlOk w h lh ch zh) (g1 : ld ≤ 16777216) (g2 : ll ≤ 16777216) (g3 : lh ≤ 16777216) (hi1 : 256 ≤ i) (hi2 : i < 65536)
    (hb : hasB t b = false) :
    Calls Tryz.prog 45 #[mpV i s b, .pointer (some ⟨p, 0, none⟩), .bool out] w fun e w' => e = .returned (.int .u32 100925505) ∧ Below w.heap.size w w' := by
  have HG : Hid (∀ W, Calls Tryz.prog 24 #[mpV i s b] W fun e w' => e = .returned (.bool false) ∧ Below W.heap.size W w') := fun W => isGap_no i s b W hi1 hi2
  have HF : Hid (∀ W, Below w.heap.size w W → Calls Tryz.prog 64 #[.pointer (some ⟨p, 0, none⟩), plV i s] W fun e w' => (∃ a1 c1 a2 c2 a3 c3, e = .returned (.tuple #[.agg (enC i s nm t rt a1 ld c1 a2 ll c2 a3 lh c3 tg gr), .int .u32 0])) ∧ Below W.heap.size W w') := fun W hb => findE_at p m cg lst i s nm t rt d ld cd l ll cl h lh ch tg gr v lv cv zd zl zh W (blk11 hb hp) (hm.next hb) hl (rd.next hb) (rl.next hb) (rh.next hb) g1 g2 g3
  have HT : Hid (∀ a1 c1 a2 c2 a3 c3 W, Calls Tryz.prog 65 #[mpV i s b, .agg (enC i s nm t rt a1 ld c1 a2 ll c2 a3 lh c3 tg gr)] W fun e w' => e = .returned (.bool false) ∧ Below W.heap.size W w') := fun a1 c1 a2 c2 a3 c3 W => by have := fits_any i s b i s nm t rt a1 ld c1 a2 ll c2 a3 lh c3 tg gr W; rw [hb, Bool.and_false] at this; exact this
  clear hp hm hl rd rl rh g1 g2 g3 hb
  go_enter Tryz.func45, Tryz.ntmps45
  go_wp2_with fail
  refine (HG.out _).mono ?_
  rintro e w1 ⟨rfl, hb1⟩
  have B1 : Hid (Below w.heap.size w w1) := Below.andThen (by repeat (first | exact Below.refl _ _ | apply Below.drew | apply Below.al)) hb1
  have X1 : Hid (w1.heap[w.heap.size]? = some (.cells #[.int .u16 i, .int .u8 s, .int .i64 b] 73 (0, 0))) := blk11 hb1 (at11 _ _ _ rfl)
  have c0 : w1.cell? ⟨w.heap.size, 0, none⟩ = some (.int .u16 i) := by rw [cell_of_row _ _ 0 _ _ _ X1.out]; rfl
  have c1 : w1.cell? ⟨w.heap.size, 1, none⟩ = some (.int .u8 s) := by rw [cell_of_row _ _ 1 _ _ _ X1.out]; rfl
  clear hb1
  go_wp2_with fail
  refine (HF.out _ B1.out).mono ?_
  rintro e w2 ⟨⟨a1, k1, a2, k2, a3, k3, rfl⟩, hb2⟩
  have B2 : Hid (Below w.heap.size w w2) := Below.andThen B1.out hb2
  have X2 : Hid (w2.heap[w.heap.size]? = some (.cells #[.int .u16 i, .int .u8 s, .int .i64 b] 73 (0, 0))) := blk11 hb2 X1.out
  have lw := lt_of_heap X2.out
  have d0 : w2.cell? ⟨w.heap.size, 0, none⟩ = some (.int .u16 i) := by rw [cell_of_row _ _ 0 _ _ _ X2.out]; rfl
  have d1 : w2.cell? ⟨w.heap.size, 1, none⟩ = some (.int .u8 s) := by rw [cell_of_row _ _ 1 _ _ _ X2.out]; rfl
  have d2 : w2.cell? ⟨w.heap.size, 2, none⟩ = some (.int .i64 b) := by rw [cell_of_row _ _ 2 _ _ _ X2.out]; rfl
  clear hb2 c0 c1
  cases out with
  | false =>
    go_wp2_with (refine wpList_load_by rfl 52 _ rfl ⟨w2.heap.size, 0, none⟩ _ rfl (load_part 52 10 sizeE aggE _ w2.heap.size 0 (enC i s nm t rt a1 ld k1 a2 ll k2 a3 lh k3 tg gr).toList _ (at11 _ _ _ rfl) (by simp)) ?_)
    refine (HT.out _ _ _ _ _ _ _).mono ?_
    rintro e w3 ⟨rfl, hb3⟩
    have B3 : Hid (Below w.heap.size w w3) := Below.andThen (Below.al B2.out _) hb3
    have X3 : Hid (w3.heap[w2.heap.size]? = some (.cells (enC i s nm t rt a1 ld k1 a2 ll k2 a3 lh k3 tg gr) 52 (0, 0))) := blk11 hb3 (at11 _ _ _ rfl)
    have c4 : w3.cell? ⟨w2.heap.size, 4, none⟩ = some (.int .u8 rt) := by rw [cell_of_row _ _ 4 _ _ _ X3.out]; rfl
    clear hb3
    go_wp2_with fail
    go_ret
    exact ⟨rfl, B3.out⟩
  | true =>
    go_wp2_with (refine wpList_load_by rfl 52 _ rfl ⟨w2.heap.size, 0, none⟩ _ rfl (load_part 52 10 sizeE aggE _ w2.heap.size 0 (enC i s nm t rt a1 ld k1 a2 ll k2 a3 lh k3 tg gr).toList _ (at11 _ _ _ rfl) (by simp)) ?_)
    refine (HT.out _ _ _ _ _ _ _).mono ?_
    rintro e w3 ⟨rfl, hb3⟩
    have B3 : Hid (Below w.heap.size w w3) := Below.andThen (Below.al B2.out _) hb3
    have X3 : Hid (w3.heap[w2.heap.size]? = some (.cells (enC i s nm t rt a1 ld k1 a2 ll k2 a3 lh k3 tg gr) 52 (0, 0))) := blk11 hb3 (at11 _ _ _ rfl)
    have c4 : w3.cell? ⟨w2.heap.size, 4, none⟩ = some (.int .u8 rt) := by rw [cell_of_row _ _ 4 _ _ _ X3.out]; rfl
    clear hb3
    go_wp2_with fail
    go_ret
    exact ⟨rfl, B3.out⟩
#print axioms mcheck_bad

set_option linter.unusedSimpArgs false in
set_option maxHeartbeats 4000000 in
set_option maxRecDepth 100000 in
theorem unpack_short (p m : Nat) (cg : Int) (lst : Mp) (gm N cap : Nat) (ms : List Mq) (a : Option Addr) (len capb : Nat) (w : World) (hp : w.heap[p]? = some (.cells #[.map (some m), .int .i64 cg] 91 (0, 0))) (hm : IsM w m lst) (hN : ms.length = N) (h64 : N ≤ 64) (hM : MsAt w gm ms) (hO : ∀ x ∈ ms, MpOk w lst false x) (hs : sumB ms N ≤ 64) (hlen : len < (sumB ms N + 7) / 8) :
    Calls Tryz.prog 7 #[.pointer (some ⟨p, 0, none⟩), .slice (some ⟨gm, 0, none⟩) N cap, .slice a len capb] w fun e w' => e = .returned (.tuple #[.slice none 0 0, .int .u32 101122064]) ∧ Below w.heap.size w w' := by
  obtain ⟨R, hR⟩ : ∃ R, Hid (R = (sumB ms N + 7) / 8) := ⟨_, rfl⟩
  have HC : Hid (∀ W, Below w.heap.size w W → Calls Tryz.prog 18 #[.pointer (some ⟨p, 0, none⟩), .slice (some ⟨gm, 0, none⟩) N cap, .bool false] W fun e w' => e = .returned (.int .u32 0) ∧ Below W.heap.size W w') := fun W hb => check_ok false p m cg lst gm N cap ms W (blk11 hb hp) (hm.next hb) hN h64 (hM.next hb) (fun x hx => (hO x hx).next hb) hs
  have HS : Hid (∀ W, Below w.heap.size w W → Calls Tryz.prog 19 #[.slice (some ⟨gm, 0, none⟩) N cap] W fun e w' => e = .returned (.int .i64 (R : Int)) ∧ Below W.heap.size W w') := fun W hb => by rw [hR.out]; exact size_ok gm N cap ms W hN h64 (hM.next hb) hs
  have hRl : len < R := by have := hR.out; omega
  clear hp hm hM hO
  go_enter Tryz.func7, Tryz.ntmps7
  go_wp2_with fail
  refine (HC.out _ (by repeat (first | exact Below.refl _ _ | apply Below.drew | apply Below.al))).mono ?_
  rintro e w1 ⟨rfl, hb1⟩
  have B1 : Hid (Below w.heap.size w w1) := Below.andThen (by repeat (first | exact Below.refl _ _ | apply Below.drew | apply Below.al)) hb1
  have HB1 : Hid (w1.heap[w.heap.size]? = some (.cells #[.slice a len capb] 24 (0, 0))) := blk11 hb1 (at11 _ _ _ rfl)
  clear hb1
  go_wp2_with fail
  refine wp_region_held_drew (S := fun z => Below w1.heap.size w1 z) (by kernel_rfl) (Below.drew (Below.refl _ _)) (fun hHeld => ?_)
  refine tk 0 (.slice a len capb) rfl (.inl ⟨by rfl, ?_⟩) ?_
  · intro w9 hSw
    try dsimp only at hSw
    have c9 : w9.cell? ⟨w.heap.size, 0, none⟩ = some (.slice a len capb) := by rw [cell_of_row _ _ 0 _ _ _ (blk11 hSw HB1.out)]; rfl
    go_simp
    all_goals try assumption
  try simp only [Act.put, gA, gS, gZ, sA, sZ, sS]
  refine tk 1 (.int .i64 (len : Int)) rfl (.inl ⟨by rfl, ?_⟩) ?_
  · intro w9 hSw
    try dsimp only at hSw
    go_simp
    all_goals try decide
    all_goals try assumption
    all_goals try omega
  try simp only [Act.put, gA, gS, gZ, sA, sZ, sS]
  refine tk 2 (.slice (some ⟨gm, 0, none⟩) N cap) rfl (.inl ⟨by rfl, ?_⟩) ?_
  · intro w9 hSw
    try dsimp only at hSw
    go_simp
    all_goals try decide
    all_goals try assumption
    all_goals try omega
  try simp only [Act.put, gA, gS, gZ, sA, sZ, sS]
  refine wpAnyH_ready (rs := [3]) (by kernel_rfl) (by simp) ?_
  refine AllReadyH.cons rfl (fun K' hK => ?_) AllReadyH.nil
  rw [if_pos (by rfl)]
  simp only [gA, gS, gZ]
  go_wp2_with fail
  refine (HS.out _ (Below.andThen B1.out (Below.drew (Below.refl _ _)))).mono ?_
  rintro e z3 ⟨rfl, hb3⟩
  have N3 : Hid (Below w1.heap.size w1 z3) := Below.andThen (Below.drew (Below.refl _ _)) hb3
  clear hb3
  try go_wp2_with fail
  refine hK.out _ _ (N3.out) (fun hHeld => ?_)
  clear hK K'
  try simp only [Act.put, gA, gS, gZ, sA, sZ, sS]
  refine tk 4 (.bool true) rfl (.inl ⟨by rfl, ?_⟩) ?_
  · intro w9 hSw
    try dsimp only at hSw
    have q1 : (len : Int) < (R : Int) := by omega
    go_simp
    all_goals try omega
  try simp only [Act.put, gA, gS, gZ, sA, sZ, sS]
  refine wpAnyH_done (by kernel_rfl) ?_ _
  have B3 : Hid (Below w.heap.size w z3) := Below.andThen B1.out hHeld
  clear hHeld N3
  go_wp2_with fail
  go_ret2
  exact ⟨rfl, B3.out⟩
#print axioms unpack_short

set_option linter.unusedSimpArgs false in
set_option maxHeartbeats 4000000 in
set_option maxRecDepth 100000 in
theorem check_nil (out : Bool) (pv : Value) (w : World) : Calls Tryz.prog 18 #[pv, .slice none 0 0, .bool out] w fun e w' => e = .returned (.int .u32 0) ∧ w' = w := by
  go_enter Tryz.func18, Tryz.ntmps18
  go_wp2_with fail
  go_loopw [7, 16] (fun cv iv wr => iv = .int .i64 0 ∧ cv = .int .i64 0 ∧ wr = w) (fun _ _ _ => 0)
  case atStart => exact ⟨rfl, rfl, rfl⟩
  case round =>
    obtain ⟨rfl, rfl, rfl⟩ := hrel
    go_wp2_with fail
    go_ret
    exact ⟨rfl, rfl⟩

set_option linter.unusedSimpArgs false in
set_option maxHeartbeats 4000000 in
set_option maxRecDepth 100000 in
theorem size_nil (w : World) : Calls Tryz.prog 19 #[.slice none 0 0] w fun e w' => e = .returned (.int .i64 0) ∧ w' = w := by
  have HF : Hid (∀ W, Calls Tryz.prog 21 #[.int .i64 0] W fun e w' => e = .returned (.int .i64 0) ∧ w' = W) := fun W => bytesFor_any 0 W (by decide)
  go_enter Tryz.func19, Tryz.ntmps19
  go_wp2_with fail
  go_loopw [3, 8] (fun cv iv wr => iv = .int .i64 0 ∧ cv = .int .i64 0 ∧ wr = w) (fun _ _ _ => 0)
  case atStart => exact ⟨rfl, rfl, rfl⟩
  case round =>
    obtain ⟨rfl, rfl, rfl⟩ := hrel
    go_wp2_with fail
    refine (HF.out _).mono ?_
    rintro e w2 ⟨rfl, rfl⟩
    go_wp2_with fail
    go_ret
    exact ⟨rfl, rfl⟩

set_option linter.unusedSimpArgs false in
set_option maxHeartbeats 4000000 in
set_option maxRecDepth 100000 in
theorem pack_nil (pv : Value) (w : World) : Calls Tryz.prog 15 #[pv, .slice none 0 0] w fun e w' => (∃ g, e = .returned (.tuple #[.slice (some ⟨g, 0, none⟩) 0 0, .int .u32 0])) ∧ Below w.heap.size w w' := by
  have MK := mkZ 0 (by decide)
  have MK0 : ∀ W, (Instr.makeSlice 24 (.int .i64 0) (.int .i64 0)).run Tryz.prog W = .ok (.slice (some ⟨W.heap.size, 0, none⟩) 0 0) (W.alloc (.cells (zC 0) 5)) := MK
  clear MK
  go_enter Tryz.func15, Tryz.ntmps15
  go_wp2_with fail
  refine (check_nil true pv _).mono ?_
  rintro e w1 ⟨rfl, rfl⟩
  go_wp2_with fail
  refine (size_nil _).mono ?_
  rintro e w2 ⟨rfl, rfl⟩
  go_wp2_with fail
  obtain ⟨W0, HW0⟩ : ∃ W0, Hid (W0 = w2.alloc (.cells (zC 0) 5)) := ⟨_, rfl⟩
  have BW : Hid (Below w2.heap.size w2 W0) := by rw [HW0.out]; exact Below.al (Below.refl _ _) _
  go_loopw [8, 24] (fun ev iv wr => iv = .int .i64 0 ∧ ev = .int .i64 0 ∧ wr = W0) (fun _ _ _ => 0)
  case atStart => exact ⟨rfl, rfl, HW0.out.symm⟩
  case round =>
    obtain ⟨rfl, rfl, rfl⟩ := hrel
    go_wp2_with fail
    go_ret2
    exact ⟨⟨_, rfl⟩, BW.out⟩

set_option linter.unusedSimpArgs false in
set_option maxHeartbeats 4000000 in
set_option maxRecDepth 100000 in
theorem unpack_nil (pv : Value) (w : World) : Calls Tryz.prog 7 #[pv, .slice none 0 0, .slice none 0 0] w fun e w' => e = .returned (.tuple #[.slice none 0 0, .int .u32 0]) ∧ Below w.heap.size w w' := by
  go_enter Tryz.func7, Tryz.ntmps7
  go_wp2_with fail
  refine (check_nil false pv _).mono ?_
  rintro e w1 ⟨rfl, h1⟩
  have B1 : Hid (Below w.heap.size w w1) := by rw [h1]; exact (by repeat (first | exact Below.refl _ _ | apply Below.drew | apply Below.al))
  have HB1 : Hid (w1.heap[w.heap.size]? = some (.cells #[.slice none 0 0] 24 (0, 0))) := by rw [h1]; exact at11 _ _ _ rfl
  clear h1
  go_wp2_with fail
  refine wp_region_held_drew (S := fun z => Below w1.heap.size w1 z) (by kernel_rfl) (Below.drew (Below.refl _ _)) (fun hHeld => ?_)
  refine tk 0 (.slice none 0 0) rfl (.inl ⟨by rfl, ?_⟩) ?_
  · intro w9 hSw
    try dsimp only at hSw
    have c9 : w9.cell? ⟨w.heap.size, 0, none⟩ = some (.slice none 0 0) := by rw [cell_of_row _ _ 0 _ _ _ (blk11 hSw HB1.out)]; rfl
    go_simp
    all_goals try assumption
  try simp only [Act.put, gA, gS, gZ, sA, sZ, sS]
  refine tk 1 (.int .i64 0) rfl (.inl ⟨by rfl, ?_⟩) ?_
  · intro w9 hSw
    try dsimp only at hSw
    go_simp
    all_goals try decide
    all_goals try assumption
    all_goals try omega
  try simp only [Act.put, gA, gS, gZ, sA, sZ, sS]
  refine tk 2 (.slice none 0 0) rfl (.inl ⟨by rfl, ?_⟩) ?_
  · intro w9 hSw
    try dsimp only at hSw
    go_simp
    all_goals try decide
    all_goals try assumption
    all_goals try omega
  try simp only [Act.put, gA, gS, gZ, sA, sZ, sS]
  refine wpAnyH_ready (rs := [3]) (by kernel_rfl) (by simp) ?_
  refine AllReadyH.cons rfl (fun K' hK => ?_) AllReadyH.nil
  rw [if_pos (by rfl)]
  simp only [gA, gS, gZ]
  go_wp2_with fail
  refine (size_nil _).mono ?_
  rintro e z3 ⟨rfl, rfl⟩
  try go_wp2_with fail
  refine hK.out _ _ (hHeld) (fun hHeld => ?_)
  clear hK K'
  try simp only [Act.put, gA, gS, gZ, sA, sZ, sS]
  refine tk 4 (.bool false) rfl (.inl ⟨by rfl, ?_⟩) ?_
  · intro w9 hSw
    try dsimp only at hSw
    go_simp
    all_goals try decide
    all_goals try assumption
    all_goals try omega
  try simp only [Act.put, gA, gS, gZ, sA, sZ, sS]
  refine wpAnyH_done (by kernel_rfl) ?_ _
  have B3 : Hid (Below w.heap.size w w1.drew) := Below.drew B1.out
  clear hHeld
  go_wp2_with fail
  obtain ⟨W0, HW0⟩ : ∃ W0, Hid (W0 = w1.drew.alloc (.cells #[.int .i64 0] 3)) := ⟨_, rfl⟩
  have BW : Hid (Below w.heap.size w W0) := by rw [HW0.out]; exact Below.al B3.out _
  go_loopw [11, 31] (fun u iv wr => iv = .int .i64 0 ∧ u = .slice none 0 0 ∧ wr = W0) (fun _ _ _ => 0)
  case atStart => exact ⟨rfl, rfl, HW0.out.symm⟩
  case round =>
    obtain ⟨rfl, rfl, rfl⟩ := hrel
    go_wp2_with fail
    go_ret2
    exact ⟨rfl, BW.out⟩

set_option linter.unusedSimpArgs false in
set_option maxHeartbeats 4000000 in
set_option maxRecDepth 100000 in
theorem write_fail (pv mv bv : Value) (code : Int) (hc : code ≠ 0) (w : World) (HU : Calls Tryz.prog 7 #[pv, mv, bv] w fun e w' => e = .returned (.tuple #[.slice none 0 0, .int .u32 code]) ∧ Below w.heap.size w w') :
    Calls Tryz.prog 10 #[pv, mv, bv] w fun e w' => e = .returned (.int .u32 code) ∧ Below w.heap.size w w' := by
  have HUU : Hid (Calls Tryz.prog 7 #[pv, mv, bv] w fun e w' => e = .returned (.tuple #[.slice none 0 0, .int .u32 code]) ∧ Below w.heap.size w w') := HU
  clear HU
  go_enter Tryz.func10, Tryz.ntmps10
  go_wp2_with fail
  refine HUU.out.mono ?_
  rintro e w1 ⟨rfl, hb⟩
  have B1 : Hid (Below w.heap.size w w1) := hb
  clear hb
  go_wp2_with fail
  go_ret
  exact ⟨rfl, B1.out⟩

set_option linter.unusedSimpArgs false in
set_option maxHeartbeats 4000000 in
set_option maxRecDepth 100000 in
theorem write_none (pv : Value) (w : World) : Calls Tryz.prog 10 #[pv, .slice none 0 0, .slice none 0 0] w fun e w' => e = .returned (.int .u32 0) ∧ Below w.heap.size w w' := by
  go_enter Tryz.func10, Tryz.ntmps10
  go_wp2_with fail
  refine (unpack_nil pv w).mono ?_
  rintro e w1 ⟨rfl, hb⟩
  have B1 : Hid (Below w.heap.size w w1) := hb
  clear hb
  go_wp2_with fail
  go_loopw [23] (fun iv wr => iv = .int .i64 0 ∧ wr = w1) (fun _ _ => 0)
  case atStart => exact ⟨rfl, rfl⟩
  case round =>
    obtain ⟨rfl, rfl⟩ := hrel
    go_wp2_with fail
    go_ret
    exact ⟨rfl, B1.out⟩
#print axioms write_none
end Go.Proofs.YtajllkkbgpijiaaGreatDoor
namespace Go.Proofs.YtajllkkbgpijiaaGreatDoor
open Go.RowKit

/-- A Map that came in. -/
structure Mz where
  i : Int
  s : Int
  b : Int
/-- Maps that came in, in memory. -/
def MzAt (W : World) (g off : Nat) (ms : List Mz) : Prop := ∀ (k : Nat) (x : Mz), ms[k]? = some x → W.cell? ⟨g, off + k * 3, none⟩ = some (.int .u16 x.i) ∧ W.cell? ⟨g, off + k * 3 + 1, none⟩ = some (.int .u8 x.s) ∧ W.cell? ⟨g, off + k * 3 + 2, none⟩ = some (.int .i64 x.b)
theorem MzAt.next {W W' : World} {g off : Nat} {ms : List Mz} (h : MzAt W g off ms) (hb : Below W.heap.size W W') : MzAt W' g off ms := fun k x hx => by
  obtain ⟨h1, h2, h3⟩ := h k x hx
  exact ⟨by rw [hb.cell (p := ⟨g, off + k * 3, none⟩) (block_lt_of_cell h1)]; exact h1, by rw [hb.cell (p := ⟨g, off + k * 3 + 1, none⟩) (block_lt_of_cell h2)]; exact h2, by rw [hb.cell (p := ⟨g, off + k * 3 + 2, none⟩) (block_lt_of_cell h3)]; exact h3⟩
theorem MzAt.kp {W W' : World} {g off : Nat} {ms : List Mz} {S : List Nat} (h : MzAt W g off ms) (hb : Kp S W W') (hg : g ∉ S) : MzAt W' g off ms := fun k x hx => by
  obtain ⟨h1, h2, h3⟩ := h k x hx
  have e := hb.block g (block_lt_of_cell h1) hg
  exact ⟨by rw [World.cell?_of_block (w := W) e]; exact h1, by rw [World.cell?_of_block (w := W) e]; exact h2, by rw [World.cell?_of_block (w := W) e]; exact h3⟩
/-- An item's type, and its rights. -/
def itT : Value → Int
  | .agg c => match c[3]? with
    | some (Value.int _ t) => t
    | _ => 0
  | _ => 0
def itR : Value → Int
  | .agg c => match c[4]? with
    | some (Value.int _ t) => t
    | _ => 0
  | _ => 0
/-- Every item of a dictionary is whole. -/
def ItOk (W : World) (lst : Mp) (val : Int → Int → List Int) : Prop := ∀ (i s : Int) (u : Value), lookP lst i s = some u → ∃ nm t rt d ld cd l ll cl h lh ch tg gr v lv cv zd zl zh, u = .agg (itC i s nm t rt d ld cd l ll cl h lh ch tg gr v lv cv) ∧ SlOk W d ld cd zd ∧ SlOk W l ll cl zl ∧ SlOk W h lh ch zh ∧ SlOk W v lv cv (val i s) ∧ ld ≤ 16777216 ∧ ll ≤ 16777216 ∧ lh ≤ 16777216 ∧ lv ≤ 16777216 ∧ (0 < Ty.Pl.sizeN t → (lv : Int) = Ty.Pl.sizeN t)
theorem ItOk.next {W W' : World} {lst : Mp} {val : Int → Int → List Int} (h : ItOk W lst val) (hb : Below W.heap.size W W') : ItOk W' lst val := fun i s u hu => by
  obtain ⟨nm, t, rt, d, ld, cd, l, ll, cl, h, lh, ch, tg, gr, v, lv, cv, zd, zl, zh, e, r1, r2, r3, r4, r5⟩ := h i s u hu
  exact ⟨nm, t, rt, d, ld, cd, l, ll, cl, h, lh, ch, tg, gr, v, lv, cv, zd, zl, zh, e, r1.next hb, r2.next hb, r3.next hb, r4.next hb, r5⟩
/-- A Map's code, of a dictionary. -/
def cfD (lst : Mp) (out : Bool) (x : Mz) : Int := if gapB x.i x.s x.b = true then (if out then 100925505 else 0) else match lookP lst x.i x.s with
  | none => missC lst x.i
  | some u => if (((bits .and .u8 (itR u) 4 != 0) && hasB (itT u) x.b) && !(bits .and .u8 (itR u) (rgt out) == 0)) = true then 0 else 100925505
set_option linter.unusedSimpArgs false in
set_option maxHeartbeats 4000000 in
set_option maxRecDepth 100000 in
theorem mcheck_it (out : Bool) (p m : Nat) (cg : Int) (lst : Mp) (i s b : Int) (nm : ByteArray) (t rt : Int) (d : Option Addr) (ld cd : Nat) (l : Option Addr) (ll cl : Nat) (h : Option Addr) (lh ch : Nat) (tg gr : Int) (v : Option Addr) (lv cv : Nat) (zd zl zh : List Int) (w : World) (hp : w.heap[p]? = some (.cells #[.map (some m), .int .i64 cg] 91 (0, 0))) (hm : IsM w m lst) (hl : lookP lst i s = some (.agg (itC i s nm t rt d ld cd l ll cl h lh ch tg gr v lv cv))) (rd : SlOk w d ld cd zd) (rl : SlOk w l ll cl zl) (rh : SlOk w h lh ch zh) (g1 : ld ≤ 16777216) (g2 : ll ≤ 16777216) (g3 : lh ≤ 16777216) (hi1 : 0 ≤ i) (hi2 : i < 65536) (hg : gapB i s b = false) :
    Calls Tryz.prog 45 #[mpV i s b, .pointer (some ⟨p, 0, none⟩), .bool out] w fun e w' => e = .returned (.int .u32 (if (((bits .and .u8 rt 4 != 0) && hasB t b) && !(bits .and .u8 rt (rgt out) == 0)) = true then 0 else 100925505)) ∧ Below w.heap.size w w' := by
  obtain ⟨f, hf⟩ : ∃ f, Hid (f = ((bits .and .u8 rt 4 != 0) && hasB t b)) := ⟨_, rfl⟩
  obtain ⟨r, hr⟩ : ∃ r, Hid (r = (bits .and .u8 rt (rgt out) == 0)) := ⟨_, rfl⟩
  rw [← hf.out, ← hr.out]
  have HG : Hid (∀ W, Calls Tryz.prog 24 #[mpV i s b] W fun e w' => e = .returned (.bool false) ∧ Below W.heap.size W w') := fun W => by have := isGap_any i s b W hi1 hi2; rw [hg] at this; exact this
  have HF : Hid (∀ W, Below w.heap.size w W → Calls Tryz.prog 64 #[.pointer (some ⟨p, 0, none⟩), plV i s] W fun e w' => (∃ a1 c1 a2 c2 a3 c3, e = .returned (.tuple #[.agg (enC i s nm t rt a1 ld c1 a2 ll c2 a3 lh c3 tg gr), .int .u32 0])) ∧ Below W.heap.size W w') := fun W hb => findE_at p m cg lst i s nm t rt d ld cd l ll cl h lh ch tg gr v lv cv zd zl zh W (blk11 hb hp) (hm.next hb) hl (rd.next hb) (rl.next hb) (rh.next hb) g1 g2 g3
  have HT : Hid (∀ a1 c1 a2 c2 a3 c3 W, Calls Tryz.prog 65 #[mpV i s b, .agg (enC i s nm t rt a1 ld c1 a2 ll c2 a3 lh c3 tg gr)] W fun e w' => e = .returned (.bool f) ∧ Below W.heap.size W w') := fun a1 c1 a2 c2 a3 c3 W => by rw [hf.out]; exact fits_any i s b i s nm t rt a1 ld c1 a2 ll c2 a3 lh c3 tg gr W
  have HR : Hid ((bits .and .u8 rt (rgt out) == 0) = r) := hr.out.symm
  clear hp hm hl rd rl rh g1 g2 g3 hg hf hr
  go_enter Tryz.func45, Tryz.ntmps45
  go_wp2_with fail
  refine (HG.out _).mono ?_
  rintro e w1 ⟨rfl, hb1⟩
  have B1 : Hid (Below w.heap.size w w1) := Below.andThen (by repeat (first | exact Below.refl _ _ | apply Below.drew | apply Below.al)) hb1
  have X1 : Hid (w1.heap[w.heap.size]? = some (.cells #[.int .u16 i, .int .u8 s, .int .i64 b] 73 (0, 0))) := blk11 hb1 (at11 _ _ _ rfl)
  have c0 : w1.cell? ⟨w.heap.size, 0, none⟩ = some (.int .u16 i) := by rw [cell_of_row _ _ 0 _ _ _ X1.out]; rfl
  have c1 : w1.cell? ⟨w.heap.size, 1, none⟩ = some (.int .u8 s) := by rw [cell_of_row _ _ 1 _ _ _ X1.out]; rfl
  clear hb1
  go_wp2_with fail
  refine (HF.out _ B1.out).mono ?_
  rintro e w2 ⟨⟨a1, k1, a2, k2, a3, k3, rfl⟩, hb2⟩
  have B2 : Hid (Below w.heap.size w w2) := Below.andThen B1.out hb2
  have X2 : Hid (w2.heap[w.heap.size]? = some (.cells #[.int .u16 i, .int .u8 s, .int .i64 b] 73 (0, 0))) := blk11 hb2 X1.out
  have lw := lt_of_heap X2.out
  have d0 : w2.cell? ⟨w.heap.size, 0, none⟩ = some (.int .u16 i) := by rw [cell_of_row _ _ 0 _ _ _ X2.out]; rfl
  have d1 : w2.cell? ⟨w.heap.size, 1, none⟩ = some (.int .u8 s) := by rw [cell_of_row _ _ 1 _ _ _ X2.out]; rfl
  have d2 : w2.cell? ⟨w.heap.size, 2, none⟩ = some (.int .i64 b) := by rw [cell_of_row _ _ 2 _ _ _ X2.out]; rfl
  clear hb2 c0 c1
  cases f with
  | false =>
    cases out with
    | false =>
      clear HR
      go_wp2_with (refine wpList_load_by rfl 52 _ rfl ⟨w2.heap.size, 0, none⟩ _ rfl (load_part 52 10 sizeE aggE _ w2.heap.size 0 (enC i s nm t rt a1 ld k1 a2 ll k2 a3 lh k3 tg gr).toList _ (at11 _ _ _ rfl) (by simp)) ?_)
      refine (HT.out _ _ _ _ _ _ _).mono ?_
      rintro e w3 ⟨rfl, hb3⟩
      have B3 : Hid (Below w.heap.size w w3) := Below.andThen (Below.al B2.out _) hb3
      have X3 : Hid (w3.heap[w2.heap.size]? = some (.cells (enC i s nm t rt a1 ld k1 a2 ll k2 a3 lh k3 tg gr) 52 (0, 0))) := blk11 hb3 (at11 _ _ _ rfl)
      have c4 : w3.cell? ⟨w2.heap.size, 4, none⟩ = some (.int .u8 rt) := by rw [cell_of_row _ _ 4 _ _ _ X3.out]; rfl
      clear hb3
      go_wp2_with fail
      go_ret
      exact ⟨rfl, B3.out⟩
    | true =>
      clear HR
      go_wp2_with (refine wpList_load_by rfl 52 _ rfl ⟨w2.heap.size, 0, none⟩ _ rfl (load_part 52 10 sizeE aggE _ w2.heap.size 0 (enC i s nm t rt a1 ld k1 a2 ll k2 a3 lh k3 tg gr).toList _ (at11 _ _ _ rfl) (by simp)) ?_)
      refine (HT.out _ _ _ _ _ _ _).mono ?_
      rintro e w3 ⟨rfl, hb3⟩
      have B3 : Hid (Below w.heap.size w w3) := Below.andThen (Below.al B2.out _) hb3
      have X3 : Hid (w3.heap[w2.heap.size]? = some (.cells (enC i s nm t rt a1 ld k1 a2 ll k2 a3 lh k3 tg gr) 52 (0, 0))) := blk11 hb3 (at11 _ _ _ rfl)
      have c4 : w3.cell? ⟨w2.heap.size, 4, none⟩ = some (.int .u8 rt) := by rw [cell_of_row _ _ 4 _ _ _ X3.out]; rfl
      clear hb3
      go_wp2_with fail
      go_ret
      exact ⟨rfl, B3.out⟩
  | true =>
    cases r with
    | false =>
      cases out with
      | false =>
        have hr1 : (bits .and .u8 rt 2 == 0) = false := HR.out
        have hr2 : ¬ (bits .and .u8 rt 2 = 0) := by simpa using hr1
        clear HR
        go_wp2_with (refine wpList_load_by rfl 52 _ rfl ⟨w2.heap.size, 0, none⟩ _ rfl (load_part 52 10 sizeE aggE _ w2.heap.size 0 (enC i s nm t rt a1 ld k1 a2 ll k2 a3 lh k3 tg gr).toList _ (at11 _ _ _ rfl) (by simp)) ?_)
        refine (HT.out _ _ _ _ _ _ _).mono ?_
        rintro e w3 ⟨rfl, hb3⟩
        have B3 : Hid (Below w.heap.size w w3) := Below.andThen (Below.al B2.out _) hb3
        have X3 : Hid (w3.heap[w2.heap.size]? = some (.cells (enC i s nm t rt a1 ld k1 a2 ll k2 a3 lh k3 tg gr) 52 (0, 0))) := blk11 hb3 (at11 _ _ _ rfl)
        have c4 : w3.cell? ⟨w2.heap.size, 4, none⟩ = some (.int .u8 rt) := by rw [cell_of_row _ _ 4 _ _ _ X3.out]; rfl
        clear hb3
        go_wp2_with fail
        go_ret
        exact ⟨rfl, B3.out⟩
      | true =>
        have hr1 : (bits .and .u8 rt 1 == 0) = false := HR.out
        have hr2 : ¬ (bits .and .u8 rt 1 = 0) := by simpa using hr1
        clear HR
        go_wp2_with (refine wpList_load_by rfl 52 _ rfl ⟨w2.heap.size, 0, none⟩ _ rfl (load_part 52 10 sizeE aggE _ w2.heap.size 0 (enC i s nm t rt a1 ld k1 a2 ll k2 a3 lh k3 tg gr).toList _ (at11 _ _ _ rfl) (by simp)) ?_)
        refine (HT.out _ _ _ _ _ _ _).mono ?_
        rintro e w3 ⟨rfl, hb3⟩
        have B3 : Hid (Below w.heap.size w w3) := Below.andThen (Below.al B2.out _) hb3
        have X3 : Hid (w3.heap[w2.heap.size]? = some (.cells (enC i s nm t rt a1 ld k1 a2 ll k2 a3 lh k3 tg gr) 52 (0, 0))) := blk11 hb3 (at11 _ _ _ rfl)
        have c4 : w3.cell? ⟨w2.heap.size, 4, none⟩ = some (.int .u8 rt) := by rw [cell_of_row _ _ 4 _ _ _ X3.out]; rfl
        clear hb3
        go_wp2_with fail
        go_ret
        exact ⟨rfl, B3.out⟩
    | true =>
      cases out with
      | false =>
        have hr1 : (bits .and .u8 rt 2 == 0) = true := HR.out
        have hr2 : bits .and .u8 rt 2 = 0 := by simpa using hr1
        clear HR
        go_wp2_with (refine wpList_load_by rfl 52 _ rfl ⟨w2.heap.size, 0, none⟩ _ rfl (load_part 52 10 sizeE aggE _ w2.heap.size 0 (enC i s nm t rt a1 ld k1 a2 ll k2 a3 lh k3 tg gr).toList _ (at11 _ _ _ rfl) (by simp)) ?_)
        refine (HT.out _ _ _ _ _ _ _).mono ?_
        rintro e w3 ⟨rfl, hb3⟩
        have B3 : Hid (Below w.heap.size w w3) := Below.andThen (Below.al B2.out _) hb3
        have X3 : Hid (w3.heap[w2.heap.size]? = some (.cells (enC i s nm t rt a1 ld k1 a2 ll k2 a3 lh k3 tg gr) 52 (0, 0))) := blk11 hb3 (at11 _ _ _ rfl)
        have c4 : w3.cell? ⟨w2.heap.size, 4, none⟩ = some (.int .u8 rt) := by rw [cell_of_row _ _ 4 _ _ _ X3.out]; rfl
        clear hb3
        go_wp2_with fail
        go_ret
        exact ⟨rfl, B3.out⟩
      | true =>
        have hr1 : (bits .and .u8 rt 1 == 0) = true := HR.out
        have hr2 : bits .and .u8 rt 1 = 0 := by simpa using hr1
        clear HR
        go_wp2_with (refine wpList_load_by rfl 52 _ rfl ⟨w2.heap.size, 0, none⟩ _ rfl (load_part 52 10 sizeE aggE _ w2.heap.size 0 (enC i s nm t rt a1 ld k1 a2 ll k2 a3 lh k3 tg gr).toList _ (at11 _ _ _ rfl) (by simp)) ?_)
        refine (HT.out _ _ _ _ _ _ _).mono ?_
        rintro e w3 ⟨rfl, hb3⟩
        have B3 : Hid (Below w.heap.size w w3) := Below.andThen (Below.al B2.out _) hb3
        have X3 : Hid (w3.heap[w2.heap.size]? = some (.cells (enC i s nm t rt a1 ld k1 a2 ll k2 a3 lh k3 tg gr) 52 (0, 0))) := blk11 hb3 (at11 _ _ _ rfl)
        have c4 : w3.cell? ⟨w2.heap.size, 4, none⟩ = some (.int .u8 rt) := by rw [cell_of_row _ _ 4 _ _ _ X3.out]; rfl
        clear hb3
        go_wp2_with fail
        go_ret
        exact ⟨rfl, B3.out⟩

theorem mcheck_any (out : Bool) (p m : Nat) (cg : Int) (lst : Mp) (val : Int → Int → List Int) (x : Mz) (w : World) (hp : w.heap[p]? = some (.cells #[.map (some m), .int .i64 cg] 91 (0, 0))) (hm : IsM w m lst) (ho : ItOk w lst val) (h1 : 0 ≤ x.i) (h2 : x.i < 65536) :
    Calls Tryz.prog 45 #[mpV x.i x.s x.b, .pointer (some ⟨p, 0, none⟩), .bool out] w fun e w' => e = .returned (.int .u32 (cfD lst out x)) ∧ Below w.heap.size w w' := by
  cases hg : gapB x.i x.s x.b with
  | true =>
    rw [show cfD lst out x = (if out then 100925505 else 0) by unfold cfD; rw [if_pos hg]]
    exact mcheck_gap out _ x.i x.s x.b w h1 h2 hg
  | false =>
    cases hl : lookP lst x.i x.s with
    | none =>
      rw [show cfD lst out x = missC lst x.i by unfold cfD; rw [if_neg (by rw [hg]; decide), hl]]
      exact mcheck_miss out _ _ (miss_ne lst x.i) x.i x.s x.b w h1 h2 hg fun W hb => findE_miss p m cg lst x.i x.s W (blk11 hb hp) (hm.next hb) hl _ rfl
    | some u =>
      obtain ⟨nm, t, rt, d, ld, cd, l, ll, cl, h, lh, ch, tg, gr, v, lv, cv, zd, zl, zh, rfl, r1, r2, r3, _, g1, g2, g3, _⟩ := ho _ _ _ hl
      rw [show cfD lst out x = (if (((bits .and .u8 rt 4 != 0) && hasB t x.b) && !(bits .and .u8 rt (rgt out) == 0)) = true then 0 else 100925505) by unfold cfD; rw [if_neg (by rw [hg]; decide), hl]; rfl]
      exact mcheck_it out p m cg lst x.i x.s x.b nm t rt d ld cd l ll cl h lh ch tg gr v lv cv zd zl zh w hp hm hl r1 r2 r3 g1 g2 g3 h1 h2 hg
theorem hasB_bd {t b : Int} (h : hasB t b = true) : 0 ≤ b ∧ b ≤ 64 := by
  have := Ty.Pl.size_bd t
  simp only [hasB, Bool.and_eq_true, Bool.or_eq_true, decide_eq_true_eq, beq_iff_eq] at h
  omega
theorem cfD_bd {lst : Mp} {out : Bool} {x : Mz} (h : cfD lst out x = 0) : 0 ≤ x.b ∧ x.b ≤ 64 := by
  unfold cfD at h
  split at h
  · rename_i hg
    simp only [gapB, Bool.and_eq_true] at hg
    exact hasB_bd hg.2
  · split at h
    · exact absurd h (miss_ne _ _)
    · split at h
      · rename_i hq
        simp only [Bool.and_eq_true] at hq
        exact hasB_bd hq.1.2
      · exact absurd h (by decide)
/-- A mapping's code: of the Maps one by one, then of how many bits there are. -/
def chkZ (cf : Mz → Int) : List Mz → Int → Int
  | [], _ => 0
  | x :: l, n => if cf x ≠ 0 then cf x else if 64 < n + x.b then 100925506 else chkZ cf l (n + x.b)

set_option linter.unusedSimpArgs false in
set_option maxHeartbeats 4000000 in
set_option maxRecDepth 100000 in
theorem check_genZ (out : Bool) (pv : Value) (cf : Mz → Int) (ad : Option Addr) (gm off N cap : Nat) (had : 0 < N → ad = some ⟨gm, off, none⟩) (ms : List Mz) (w : World) (hN : ms.length = N) (h64 : N ≤ 64) (hM : MzAt w gm off ms) (hb1 : ∀ x ∈ ms, cf x = 0 → 0 ≤ x.b ∧ x.b ≤ 1000)
    (hC : ∀ W, Below w.heap.size w W → ∀ x ∈ ms, Calls Tryz.prog 45 #[mpV x.i x.s x.b, pv, .bool out] W fun e w' => e = .returned (.int .u32 (cf x)) ∧ Below W.heap.size W w') :
    Calls Tryz.prog 18 #[pv, .slice ad N cap, .bool out] w fun e w' => e = .returned (.int .u32 (chkZ cf ms 0)) ∧ Below w.heap.size w w' := by
  have HC : Hid (∀ W, Below w.heap.size w W → ∀ x ∈ ms, Calls Tryz.prog 45 #[mpV x.i x.s x.b, pv, .bool out] W fun e w' => e = .returned (.int .u32 (cf x)) ∧ Below W.heap.size W w') := hC
  have HAD : Hid (0 < N → ad = some ⟨gm, off, none⟩) := had
  have HM : Hid (MzAt w gm off ms) := hM
  have HB1 : Hid (∀ x ∈ ms, cf x = 0 → 0 ≤ x.b ∧ x.b ≤ 1000) := hb1
  obtain ⟨res, hres⟩ : ∃ res, Hid (res = chkZ cf ms 0) := ⟨_, rfl⟩
  rw [← hres.out]
  clear hC hM hb1 had
  go_enter Tryz.func18, Tryz.ntmps18
  go_wp2_with fail
  go_loopw [7, 16] (fun cv iv wr => ∃ (k : Nat) (n : Int), k ≤ N ∧ 0 ≤ n ∧ n ≤ 64 ∧ iv = .int .i64 (k : Int) ∧ cv = .int .i64 n ∧ Hid (res = chkZ cf (ms.drop k) n ∧ Below w.heap.size w wr)) (fun _ iv _ => N - (intOf iv).toNat)
  case atStart => exact ⟨0, 0, Nat.zero_le _, by decide, by decide, rfl, rfl, hres.out, Below.refl _ _⟩
  case round =>
    obtain ⟨k, n, hk, hn0, hn, rfl, rfl, HB⟩ := hrel
    by_cases hkN : k < N
    · obtain rfl := HAD.out (by omega)
      have gk : (k : Int) < (N : Int) := by omega
      have gk0 : (0 : Int) ≤ (k : Int) := by omega
      obtain ⟨x, hx⟩ : ∃ x, ms[k]? = some x := ⟨_, List.getElem?_eq_getElem (by omega)⟩
      obtain ⟨c0, c1, c2⟩ := (HM.out.next HB.out.2) k x hx
      have HX : Hid (x ∈ ms) := List.mem_of_getElem? hx
      have hxb := HB1.out x HX.out
      have DR : Hid (res = if cf x ≠ 0 then cf x else if 64 < n + x.b then 100925506 else chkZ cf (ms.drop (k + 1)) (n + x.b)) := by
        show _ = _
        obtain ⟨hk2, he⟩ := List.getElem?_eq_some_iff.1 hx
        have := HB.out.1
        rw [List.drop_eq_getElem_cons hk2, he] at this
        exact this
      have R6 : Hid (Below w.heap.size w wr) := HB.out.2
      obtain ⟨y, hy⟩ : ∃ y, Hid (y = cf x) := ⟨_, rfl⟩
      have wk : IntKind.i64.wrap ((k : Int) + 1) = ((k + 1 : Nat) : Int) := by rw [IntKind.wrap_i64]; omega
      have HCx : Hid (∀ W, Below w.heap.size w W → Calls Tryz.prog 45 #[mpV x.i x.s x.b, pv, .bool out] W fun e w' => e = .returned (.int .u32 y) ∧ Below W.heap.size W w') := fun W hb => by rw [hy.out]; exact HC.out W hb x HX.out
      rw [← hy.out] at DR
      clear hx HB
      go_wp2_with fail
      refine (HCx.out _ (Below.al R6.out _)).mono ?_
      rintro e w2 ⟨rfl, hb⟩
      have B2 : Hid (Below w.heap.size w w2) := Below.andThen (Below.al R6.out _) hb
      have X2 : Hid (w2.heap[wr.heap.size]? = some (.cells #[.int .u16 x.i, .int .u8 x.s, .int .i64 x.b] 73 (0, 0))) := blk11 hb (at11 _ _ _ rfl)
      have d2 : w2.cell? ⟨wr.heap.size, 2, none⟩ = some (.int .i64 x.b) := by rw [cell_of_row _ _ 2 _ _ _ X2.out]; rfl
      clear hb c0 c1 c2
      by_cases hy0 : y = 0
      · subst hy0
        obtain ⟨hx0, hx1⟩ := hxb hy.out.symm
        have ws : IntKind.i64.wrap (n + x.b) = n + x.b := by rw [IntKind.wrap_i64]; omega
        by_cases hs : 64 < n + x.b
        · have gs : (64 : Int) < n + x.b := by omega
          have FR : Hid (res = 100925506) := by show _ = _; rw [DR.out]; simp [hs]
          clear DR
          go_wp2_with fail
          go_ret
          exact ⟨by rw [FR.out]; rfl, B2.out⟩
        · have gs : ¬ ((64 : Int) < n + x.b) := by omega
          have FR : Hid (res = chkZ cf (ms.drop (k + 1)) (n + x.b)) := by show _ = _; rw [DR.out]; simp [hs]
          clear DR
          go_wp2_with fail
          exact ⟨⟨k + 1, n + x.b, by omega, by omega, by omega, by go_num, rfl, FR.out, B2.out⟩, by simp [intOf]; omega⟩
      · have FR : Hid (res = y) := by show _ = _; rw [DR.out]; simp [hy0]
        clear DR
        go_wp2_with fail
        go_ret
        exact ⟨by rw [FR.out]; rfl, B2.out⟩
    · obtain rfl : k = N := by omega
      have FR : Hid (res = 0) := by
        show _ = _
        rw [HB.out.1, List.drop_of_length_le (by omega)]
        rfl
      have R6 : Hid (Below w.heap.size w wr) := HB.out.2
      clear HB
      go_wp2_with fail
      go_ret
      exact ⟨by rw [FR.out]; rfl, R6.out⟩

def chkC (lst : Mp) (out : Bool) (ms : List Mz) : Int := if 64 < ms.length then 100925506 else chkZ (cfD lst out) ms 0
theorem check_any (out : Bool) (p m : Nat) (cg : Int) (lst : Mp) (val : Int → Int → List Int) (ad : Option Addr) (g off cap : Nat) (ms : List Mz) (had : 0 < ms.length → ad = some ⟨g, off, none⟩) (w : World) (hp : w.heap[p]? = some (.cells #[.map (some m), .int .i64 cg] 91 (0, 0))) (hm : IsM w m lst) (ho : ItOk w lst val) (hM : MzAt w g off ms) (hi : ∀ x ∈ ms, 0 ≤ x.i ∧ x.i < 65536) :
    Calls Tryz.prog 18 #[.pointer (some ⟨p, 0, none⟩), .slice ad ms.length cap, .bool out] w fun e w' => e = .returned (.int .u32 (chkC lst out ms)) ∧ Below w.heap.size w w' := by
  by_cases h : 64 < ms.length
  · rw [show chkC lst out ms = 100925506 by unfold chkC; rw [if_pos h]]
    exact (check_many out _ _ ms.length cap w h).mono fun e w' ⟨h1, h2⟩ => ⟨h1, by rw [h2]; exact Below.refl _ _⟩
  · rw [show chkC lst out ms = chkZ (cfD lst out) ms 0 by unfold chkC; rw [if_neg h]]
    exact check_genZ out _ (cfD lst out) ad g off ms.length cap had ms w rfl (by omega) hM (fun x _ hx => by have := cfD_bd hx; omega) fun W hb x hx => mcheck_any out p m cg lst val x W (blk11 hb hp) (hm.next hb) (ho.next hb) (hi x hx).1 (hi x hx).2
/-- Of a mapping that may be: each Map may be, and the bits are few. -/
theorem chkZ_zero (cf : Mz → Int) : ∀ (ms : List Mz) (n : Int), chkZ cf ms n = 0 → n ≤ 64 → (∀ x ∈ ms, cf x = 0) ∧ n + (ms.map (·.b)).sum ≤ 64
  | [], n, _, hn => ⟨fun x hx => (by cases hx), by simpa using hn⟩
  | x :: l, n, h, hn => by
    simp only [chkZ] at h
    split at h
    · rename_i h1; exact absurd h h1
    · rename_i h1
      split at h
      · exact absurd h (by decide)
      · rename_i h2
        have := chkZ_zero cf l (n + x.b) h (by omega)
        refine ⟨fun y hy => ?_, by have := this.2; simp only [List.map_cons, List.sum_cons]; omega⟩
        rcases List.mem_cons.1 hy with rfl | hy
        · simpa using h1
        · exact this.1 y hy
#print axioms check_any
end Go.Proofs.YtajllkkbgpijiaaGreatDoor
namespace Go.Proofs.YtajllkkbgpijiaaGreatDoor
open Go.RowKit

theorem chkN_size {t : Int} {z lo hi : List Int} (h : Ty.chkN t z lo hi = 0) (hs : 0 < Ty.Pl.sizeN t) : (z.length : Int) = Ty.Pl.sizeN t := by
  have hc : Ty.Pl.cbN t z = 0 := by
    unfold Ty.chkN at h
    split at h
    · rename_i hn; exact absurd h hn
    · rename_i hn; simpa using hn
  unfold Ty.Pl.cbN at hc
  rw [if_neg (by omega : ¬ Ty.Pl.sizeN t = 0)] at hc
  repeat' (split at hc)
  all_goals first | (exfalso; revert hc; decide) | omega
/-- The values of a dictionary that was made of entries. -/
def valE : List Em → Int → Int → List Int
  | [], _, _ => []
  | e :: r, i, s => if (i == e.i && s == e.s) = true then firstL e.t e.zd else valE r i s
theorem look_rel (Q : Em → Value → Prop) : ∀ (es : List Em) (lst : Mp) (i s : Int) (u : Value), lst.length = es.length → (∀ (k : Nat) (e : Em), es[k]? = some e → ∃ v, lst[k]? = some (e.i, e.s, v) ∧ Q e v) → lookP lst i s = some u → ∃ e ∈ es, e.i = i ∧ e.s = s ∧ valE es i s = firstL e.t e.zd ∧ Q e u
  | [], lst, i, s, u, hl, _, h => by
    have : lst = [] := List.eq_nil_of_length_eq_zero hl
    subst this
    cases h
  | e :: es, [], i, s, u, hl, _, h => by cases h
  | e :: es, x :: lst, i, s, u, hl, hr, h => by
    obtain ⟨v, hx, hq⟩ := hr 0 e rfl
    simp at hx
    subst hx
    simp only [lookP] at h
    by_cases hc : (i == e.i && s == e.s) = true
    · rw [if_pos hc] at h
      cases h
      obtain ⟨h1, h2⟩ : i = e.i ∧ s = e.s := by simpa using hc
      exact ⟨e, List.mem_cons_self, h1.symm, h2.symm, by simp only [valE]; rw [if_pos hc], hq⟩
    · rw [if_neg hc] at h
      obtain ⟨e', he, h1, h2, h3, h4⟩ := look_rel Q es lst i s u (by simpa using hl) (fun k e' he' => hr (k + 1) e' he') h
      exact ⟨e', List.mem_cons_of_mem _ he, h1, h2, by simp only [valE]; rw [if_neg hc]; exact h3, h4⟩
theorem newG_zero : ∀ (r a : List Em), newG a r = 0 → ∀ e ∈ r, mayE e = true
  | [], _, _, e, he => by cases he
  | x :: r, a, h, e, he => by
    simp only [newG] at h
    split at h
    · exact absurd h (by decide)
    · rename_i h1
      split at h
      · exact absurd h (by decide)
      · rcases List.mem_cons.1 he with rfl | he
        · simpa using h1
        · exact newG_zero r _ h e he
theorem newC_zero {es : List Em} (h : newC es = 0) : es.length ≤ 1024 ∧ ∀ e ∈ es, mayE e = true := by
  unfold newC at h
  split at h
  · exact absurd h (by decide)
  · exact ⟨by omega, newG_zero es [] h⟩
/-- What New made: every item is whole, and its value is the first one. -/
theorem built_items {w W : World} {lo : Nat} {es : List Em} {lst : Mp} (h : Built W lo es lst) (hc : newC es = 0) (hin : ∀ e ∈ es, EmIn w e) : ItOk W lst (valE es) := fun i s u hu => by
  obtain ⟨e, he, rfl, rfl, hv, a1, c1, a2, c2, a3, c3, v, lv, cv, rfl, k1, k2, k3, k4⟩ := look_rel (fun e u => ∃ a1 c1 a2 c2 a3 c3 v lv cv, u = .agg (itC e.i e.s e.nm e.t e.rt a1 e.ld c1 a2 e.ll c2 a3 e.lh c3 e.tg e.gr v lv cv) ∧ Kept W lo a1 e.ld c1 e.zd ∧ Kept W lo a2 e.ll c2 e.zl ∧ Kept W lo a3 e.lh c3 e.zh ∧ Kept W lo v lv cv (firstL e.t e.zd)) es lst i s u h.1 (fun k e he => by
    obtain ⟨a1, c1, a2, c2, a3, c3, v, lv, cv, g, k⟩ := h.2 k e he
    exact ⟨_, g, a1, c1, a2, c2, a3, c3, v, lv, cv, rfl, k⟩) hu
  obtain ⟨rd, rl, rh, b1, b2, b3⟩ := hin e he
  have hm := (mayB_yes ((newC_zero hc).2 e he)).2.2.2.2.2.2
  have hz : e.zd.length ≤ 16777216 := by rw [rd.row.size]; exact b1
  refine ⟨_, _, _, _, _, _, _, _, _, _, _, _, _, _, _, _, _, _, _, _, rfl, k1.1, k2.1, k3.1, ?_, b1, b2, b3, NF k4.1 hz, fun hs => ?_⟩
  · rw [hv]; exact k4.1
  · rw [← chkN_size hm hs, ← k4.1.row.size]
/-- Maps in memory, anywhere. -/
def MsO (W : World) (g off : Nat) (ms : List Mq) : Prop := ∀ (k : Nat) (x : Mq), ms[k]? = some x → W.cell? ⟨g, off + k * 3, none⟩ = some (.int .u16 x.i) ∧ W.cell? ⟨g, off + k * 3 + 1, none⟩ = some (.int .u8 x.s) ∧ W.cell? ⟨g, off + k * 3 + 2, none⟩ = some (.int .i64 (x.b : Int))
theorem MsO.next {W W' : World} {g off : Nat} {ms : List Mq} (h : MsO W g off ms) (hb : Below W.heap.size W W') : MsO W' g off ms := fun k x hx => by
  obtain ⟨h1, h2, h3⟩ := h k x hx
  exact ⟨by rw [hb.cell (p := ⟨g, off + k * 3, none⟩) (block_lt_of_cell h1)]; exact h1, by rw [hb.cell (p := ⟨g, off + k * 3 + 1, none⟩) (block_lt_of_cell h2)]; exact h2, by rw [hb.cell (p := ⟨g, off + k * 3 + 2, none⟩) (block_lt_of_cell h3)]; exact h3⟩
abbrev Mz.q (x : Mz) : Mq := ⟨x.i, x.s, x.b.toNat⟩
theorem MzAt.o {W : World} {g off : Nat} {ms : List Mz} (h : MzAt W g off ms) (hb : ∀ x ∈ ms, 0 ≤ x.b) : MsO W g off (ms.map Mz.q) := fun k x hx => by
  rw [List.getElem?_map] at hx
  obtain ⟨y, hy, rfl⟩ := Option.map_eq_some_iff.1 hx
  obtain ⟨h1, h2, h3⟩ := h k y hy
  have := hb y (List.mem_of_getElem? hy)
  exact ⟨h1, h2, by rw [h3]; show some (Value.int .i64 y.b) = some (Value.int .i64 (y.b.toNat : Int)); rw [Int.toNat_of_nonneg this]⟩
theorem sum_q : ∀ (ms : List Mz), (∀ x ∈ ms, 0 ≤ x.b) → ((((ms.map Mz.q).map (·.b)).sum : Nat) : Int) = (ms.map (·.b)).sum
  | [], _ => rfl
  | x :: l, h => by
    have := sum_q l fun y hy => h y (List.mem_cons_of_mem _ hy)
    have h0 := h x List.mem_cons_self
    simp only [List.map_cons, List.sum_cons] at this ⊢
    omega
set_option linter.unusedSimpArgs false in
set_option maxHeartbeats 4000000 in
set_option maxRecDepth 100000 in
theorem size_O (ad : Option Addr) (gm off N cap : Nat) (had : 0 < N → ad = some ⟨gm, off, none⟩) (ms : List Mq) (w : World) (hN : ms.length = N) (h64 : N ≤ 64) (hM : MsO w gm off ms) (hs : sumB ms N ≤ 64) :
    Calls Tryz.prog 19 #[.slice ad N cap] w fun e w' => e = .returned (.int .i64 (((sumB ms N + 7) / 8 : Nat) : Int)) ∧ Below w.heap.size w w' := by
  have HAD : Hid (0 < N → ad = some ⟨gm, off, none⟩) := had
  have HM : Hid (MsO w gm off ms) := hM
  have HF : Hid (∀ W, Calls Tryz.prog 21 #[.int .i64 ((sumB ms N : Nat) : Int)] W fun e w' => e = .returned (.int .i64 (((sumB ms N + 7) / 8 : Nat) : Int)) ∧ w' = W) := fun W => bytesFor_any _ W (by omega)
  clear hM had
  go_enter Tryz.func19, Tryz.ntmps19
  go_wp2_with fail
  go_loopw [3, 8] (fun cv iv wr => ∃ k : Nat, k ≤ N ∧ iv = .int .i64 (k : Int) ∧ cv = .int .i64 ((sumB ms k : Nat) : Int) ∧ Hid (Below w.heap.size w wr)) (fun _ iv _ => N - (intOf iv).toNat)
  case atStart => exact ⟨0, Nat.zero_le _, rfl, rfl, Below.refl _ _⟩
  case round =>
    obtain ⟨k, hk, rfl, rfl, HB⟩ := hrel
    by_cases hkN : k < N
    · obtain rfl := HAD.out (by omega)
      have gk : (k : Int) < (N : Int) := by omega
      have gk0 : (0 : Int) ≤ (k : Int) := by omega
      obtain ⟨x, hx⟩ : ∃ x, ms[k]? = some x := ⟨_, List.getElem?_eq_getElem (by omega)⟩
      obtain ⟨c0, c1, c2⟩ := (HM.out.next HB.out) k x hx
      have SS : Hid (sumB ms (k + 1) = sumB ms k + x.b) := sumB_succ hx
      have SL : Hid (sumB ms (k + 1) ≤ 64) := Nat.le_trans (sumB_le ms (by omega)) hs
      obtain ⟨sk, hsk⟩ : ∃ sk, Hid (sk = sumB ms k) := ⟨_, rfl⟩
      rw [← hsk.out] at SS ⊢
      have wk : IntKind.i64.wrap ((k : Int) + 1) = ((k + 1 : Nat) : Int) := by rw [IntKind.wrap_i64]; omega
      have ws : IntKind.i64.wrap ((sk : Int) + (x.b : Int)) = ((sk + x.b : Nat) : Int) := by have := SS.out; have := SL.out; rw [IntKind.wrap_i64]; omega
      have BA : Hid (∀ o, Below w.heap.size w (wr.alloc o)) := fun o => Below.al HB.out o
      clear hx
      go_wp2_with fail
      exact ⟨⟨k + 1, by omega, by go_num, by rw [SS.out]; go_num, BA.out _⟩, by simp [intOf]; omega⟩
    · obtain rfl : k = N := by omega
      go_wp2_with fail
      refine (HF.out _).mono ?_
      rintro e w2 ⟨rfl, rfl⟩
      go_wp2_with fail
      go_ret
      exact ⟨rfl, HB.out⟩
set_option linter.unusedSimpArgs false in
set_option maxHeartbeats 4000000 in
set_option maxRecDepth 100000 in
theorem pack_O (p m : Nat) (cg : Int) (lst : Mp) (ad : Option Addr) (gm off N cap : Nat) (ms : List Mq) (val : Int → Int → List Int) (w : World) (hp : w.heap[p]? = some (.cells #[.map (some m), .int .i64 cg] 91 (0, 0))) (hm : IsM w m lst) (hN : ms.length = N) (had : 0 < N → ad = some ⟨gm, off, none⟩) (h64 : N ≤ 64) (hM : MsO w gm off ms) (hC : Calls Tryz.prog 18 #[.pointer (some ⟨p, 0, none⟩), .slice ad N cap, .bool true] w fun e w' => e = .returned (.int .u32 0) ∧ Below w.heap.size w w') (hV : ∀ x ∈ ms, VaOk w lst val x) (hs : sumB ms N ≤ 64) :
    Calls Tryz.prog 15 #[.pointer (some ⟨p, 0, none⟩), .slice ad N cap] w fun e w' => ∃ g, e = .returned (.tuple #[.slice (some ⟨g, 0, none⟩) ((sumB ms N + 7) / 8) ((sumB ms N + 7) / 8), .int .u32 0]) ∧ w.heap.size ≤ g ∧ w'.heap[g]? = some (.cells ((pk ms val ((sumB ms N + 7) / 8) N).map (Value.int .u8)).toArray 5 (0, 0)) ∧ Below w.heap.size w w' := by
  obtain ⟨R, hR⟩ : ∃ R, Hid (R = (sumB ms N + 7) / 8) := ⟨_, rfl⟩
  rw [← hR.out]
  have HC : Hid (Calls Tryz.prog 18 #[.pointer (some ⟨p, 0, none⟩), .slice ad N cap, .bool true] w fun e w' => e = .returned (.int .u32 0) ∧ Below w.heap.size w w') := hC
  have HS : Hid (∀ W, Below w.heap.size w W → Calls Tryz.prog 19 #[.slice ad N cap] W fun e w' => e = .returned (.int .i64 (R : Int)) ∧ Below W.heap.size W w') := fun W hb => by rw [hR.out]; exact size_O ad gm off N cap had ms W hN h64 (hM.next hb) hs
  have HRd : Hid (∀ W, Below w.heap.size w W → ∀ x ∈ ms, Calls Tryz.prog 40 #[.pointer (some ⟨p, 0, none⟩), plV x.i x.s] W fun e w' => ∃ a' lv cap', e = .returned (.tuple #[.slice a' lv cap', .int .u32 0]) ∧ Told W w' a' lv cap' (val x.i x.s) ∧ lv ≤ 1000 ∧ x.b ≤ 8 * lv ∧ Below W.heap.size W w') := fun W hb x hx => read_mp ((hV x hx).next hb) (blk11 hb hp) (hm.next hb)
  have HAD : Hid (0 < N → ad = some ⟨gm, off, none⟩) := had
  have HM : Hid (MsO w gm off ms) := hM
  have hR8 : R ≤ 8 := by have := hR.out; omega
  have MK := mkZ R (by omega)
  clear hp hm hM hC hV had
  go_enter Tryz.func15, Tryz.ntmps15
  go_wp2_with fail
  refine HC.out.mono ?_
  rintro e w1 ⟨rfl, hb1⟩
  have B1 : Hid (Below w.heap.size w w1) := hb1
  clear hb1
  go_wp2_with fail
  refine (HS.out _ B1.out).mono ?_
  rintro e w2 ⟨rfl, hb2⟩
  have B2 : Hid (Below w.heap.size w w2) := Below.andThen B1.out hb2
  clear hb2
  go_wp2_with fail
  obtain ⟨g, hg⟩ : ∃ g, Hid (g = w2.heap.size) := ⟨_, rfl⟩
  rw [← hg.out]
  go_loopw [8, 24] (fun ev iv wr => ∃ k : Nat, k ≤ N ∧ iv = .int .i64 (k : Int) ∧ ev = .int .i64 ((sumB ms k : Nat) : Int) ∧ Hid (wr.heap[g]? = some (.cells ((pk ms val R k).map (Value.int .u8)).toArray 5 (0, 0)) ∧ Below w.heap.size w wr)) (fun _ iv _ => N - (intOf iv).toNat)
  case atStart => exact ⟨0, Nat.zero_le _, rfl, rfl, by rw [hg.out]; exact heap_new _ _, Below.al B2.out _⟩
  case round =>
    obtain ⟨k, hk, rfl, rfl, HR⟩ := hrel
    by_cases hkN : k < N
    · obtain rfl := HAD.out (by omega)
      have gk : (k : Int) < (N : Int) := by omega
      have gk0 : (0 : Int) ≤ (k : Int) := by omega
      obtain ⟨x, hx⟩ : ∃ x, ms[k]? = some x := ⟨_, List.getElem?_eq_getElem (by omega)⟩
      obtain ⟨c0, c1, c2⟩ := (HM.out.next HR.out.2) k x hx
      have SS : Hid (sumB ms (k + 1) = sumB ms k + x.b) := sumB_succ hx
      have SL : Hid (sumB ms (k + 1) ≤ sumB ms N) := sumB_le ms (by omega)
      have PS : Hid (pk ms val R (k + 1) = layB (val x.i x.s) 0 x.b (sumB ms k) (pk ms val R k)) := pk_succ hx
      obtain ⟨sk, hsk⟩ : ∃ sk, Hid (sk = sumB ms k) := ⟨_, rfl⟩
      rw [← hsk.out] at SS PS ⊢
      have HX : Hid (x ∈ ms) := List.mem_of_getElem? hx
      have wk : IntKind.i64.wrap ((k : Int) + 1) = ((k + 1 : Nat) : Int) := by rw [IntKind.wrap_i64]; omega
      have ws : IntKind.i64.wrap ((sk : Int) + (x.b : Int)) = ((sk + x.b : Nat) : Int) := by have := SS.out; have := SL.out; rw [IntKind.wrap_i64]; omega
      have lgr := lt_of_heap HR.out.1
      clear hx
      go_wp2_with fail
      refine (HRd.out _ (Below.al HR.out.2 _) x HX.out).mono ?_
      rintro e w3 ⟨a', lv, cap', rfl, ht, l1, l2, hb⟩
      have B3 : Hid (Below w.heap.size w w3) := Below.andThen (Below.al HR.out.2 _) hb
      have X3 : Hid (w3.heap[wr.heap.size]? = some (.cells #[.int .u16 x.i, .int .u8 x.s, .int .i64 (x.b : Int)] 73 (0, 0))) := blk11 hb (at11 _ _ _ rfl)
      have G3 : Hid (w3.heap[g]? = some (.cells ((pk ms val R k).map (Value.int .u8)).toArray 5 (0, 0))) := blk11 hb (ext11 HR.out.1)
      have T3 : Hid (Told (wr.alloc (.cells #[.int .u16 x.i, .int .u8 x.s, .int .i64 (x.b : Int)] 73)) w3 a' lv cap' (val x.i x.s)) := ht
      have d2 : w3.cell? ⟨wr.heap.size, 2, none⟩ = some (.int .i64 (x.b : Int)) := by rw [cell_of_row _ _ 2 _ _ _ X3.out]; rfl
      have lw := lt_of_heap X3.out
      clear hb c0 c1 c2 ht
      go_wp2_with fail
      refine (bits_any a' lv cap' 0 x.b w3).mono ?_
      rintro e w4 ⟨rfl, rfl⟩
      go_wp2_with fail
      have hpl := pk_len ms val R k
      have lg3 := lt_of_heap G3.out
      refine (lay_any _ (w3.heap.size + 1 + 1) (w3.heap.size + 1) w3.heap.size g R 0 sk x.b a' lv cap' (val x.i x.s) (pk ms val R k) (by omega) (by omega) (by have := SS.out; have := SL.out; have := hR.out; omega) (by omega) hpl (by omega) (by omega) (by omega) ?_ ?_ (ext11 (ext11 (ext11 G3.out)))).mono ?_
      · intro hp b o e
        obtain ⟨g', hg', hge, _⟩ := T3.out.own hp
        rw [e] at hg'
        cases hg'
        simp at hge
        omega
      · exact ⟨at11 _ _ _ (by simp), ext11 (at11 _ _ _ (by simp)), ext11 (ext11 (at11 _ _ _ rfl)), T3.out.row.next (by repeat (first | exact Below.refl _ _ | apply Below.drew | apply Below.al))⟩
      rintro e w5 ⟨rfl, h5, k5⟩
      have B5 : Hid (Below w.heap.size w w5) := Kp.below (Below.al (Below.al (Below.al B3.out _) _) _) k5 (by have := B3.out.size; simp; omega) (by have := hg.out; have := B2.out.size; simp; omega)
      have G5 : Hid (w5.heap[g]? = some (.cells ((pk ms val R (k + 1)).map (Value.int .u8)).toArray 5 (0, 0))) := by rw [PS.out]; exact h5
      have X5 : Hid (w5.heap[wr.heap.size]? = some (.cells #[.int .u16 x.i, .int .u8 x.s, .int .i64 (x.b : Int)] 73 (0, 0))) := k5.at (by simp; omega) (ext11 (ext11 (ext11 X3.out)))
      have d5 : w5.cell? ⟨wr.heap.size, 2, none⟩ = some (.int .i64 (x.b : Int)) := by rw [cell_of_row _ _ 2 _ _ _ X5.out]; rfl
      clear h5 k5 d2
      go_wp2_with fail
      exact ⟨⟨k + 1, by omega, by go_num, by rw [SS.out]; go_num, G5.out, B5.out⟩, by simp [intOf]; omega⟩
    · obtain rfl : k = N := by omega
      go_wp2_with fail
      go_ret2
      exact ⟨g, rfl, by have := hg.out; have := B2.out.size; omega, HR.out.1, HR.out.2⟩

set_option linter.unusedSimpArgs false in
set_option maxHeartbeats 4000000 in
set_option maxRecDepth 100000 in
theorem pack_fail (pv mv : Value) (code : Int) (hc : code ≠ 0) (w : World) (HC : Calls Tryz.prog 18 #[pv, mv, .bool true] w fun e w' => e = .returned (.int .u32 code) ∧ Below w.heap.size w w') :
    Calls Tryz.prog 15 #[pv, mv] w fun e w' => e = .returned (.tuple #[.slice none 0 0, .int .u32 code]) ∧ Below w.heap.size w w' := by
  have HCC : Hid (Calls Tryz.prog 18 #[pv, mv, .bool true] w fun e w' => e = .returned (.int .u32 code) ∧ Below w.heap.size w w') := HC
  clear HC
  go_enter Tryz.func15, Tryz.ntmps15
  go_wp2_with fail
  refine HCC.out.mono ?_
  rintro e w1 ⟨rfl, hb1⟩
  go_wp2_with fail
  go_ret2
  exact ⟨rfl, hb1⟩
/-- A Map that may be sent. -/
theorem cfD_va {w : World} {lst : Mp} {val : Int → Int → List Int} (ho : ItOk w lst val) {x : Mz} (hcf : cfD lst true x = 0) : VaOk w lst val x.q := by
  unfold cfD at hcf
  split at hcf
  · exact absurd hcf (by decide)
  · split at hcf
    · exact absurd hcf (miss_ne _ _)
    · rename_i u hl
      obtain ⟨nm, t, rt, d, ld, cd, l, ll, cl, h, lh, ch, tg, gr, v, lv, cv, zd, zl, zh, rfl, r1, r2, r3, r4, g1, g2, g3, g4, g5⟩ := ho _ _ _ hl
      split at hcf
      · rename_i hq
        simp only [Bool.and_eq_true] at hq
        obtain ⟨⟨_, h1⟩, h2⟩ := hq
        have h1 : hasB t x.b = true := h1
        have h2 : (!(bits .and .u8 rt 1 == 0)) = true := h2
        have hs := Ty.Pl.size_bd t
        have hb := hasB_bd h1
        have h3 : 0 < Ty.Pl.sizeN t ∧ (x.b = 8 * Ty.Pl.sizeN t ∨ t = 1 ∧ x.b = 1) := by
          simp only [hasB, Bool.and_eq_true, Bool.or_eq_true, decide_eq_true_eq, beq_iff_eq] at h1
          exact h1
        have h4 := g5 h3.1
        exact ⟨nm, t, rt, d, ld, cd, l, ll, cl, h, lh, ch, tg, gr, v, lv, cv, hl, r4, by omega, by show x.b.toNat ≤ 8 * lv; omega, by simpa using h2⟩
      · exact absurd hcf (by decide)
theorem pack_any (p m : Nat) (cg : Int) (lst : Mp) (val : Int → Int → List Int) (ad : Option Addr) (g off cap : Nat) (ms : List Mz) (had : 0 < ms.length → ad = some ⟨g, off, none⟩) (w : World) (hp : w.heap[p]? = some (.cells #[.map (some m), .int .i64 cg] 91 (0, 0))) (hm : IsM w m lst) (ho : ItOk w lst val) (hM : MzAt w g off ms) (hi : ∀ x ∈ ms, 0 ≤ x.i ∧ x.i < 65536) :
    Calls Tryz.prog 15 #[.pointer (some ⟨p, 0, none⟩), .slice ad ms.length cap] w fun e w' =>
      (chkC lst true ms ≠ 0 ∧ e = .returned (.tuple #[.slice none 0 0, .int .u32 (chkC lst true ms)]) ∧ Below w.heap.size w w') ∨
      (chkC lst true ms = 0 ∧ ∃ a R, R = (sumB (ms.map Mz.q) ms.length + 7) / 8 ∧ e = .returned (.tuple #[.slice (some ⟨a, 0, none⟩) R R, .int .u32 0]) ∧ w.heap.size ≤ a ∧ w'.heap[a]? = some (.cells ((pk (ms.map Mz.q) val R ms.length).map (Value.int .u8)).toArray 5 (0, 0)) ∧ Below w.heap.size w w') := by
  have HC := check_any true p m cg lst val ad g off cap ms had w hp hm ho hM hi
  by_cases h : chkC lst true ms = 0
  · rw [h] at HC
    have hl : ms.length ≤ 64 := by
      unfold chkC at h
      split at h
      · exact absurd h (by decide)
      · omega
    have hz : (∀ x ∈ ms, cfD lst true x = 0) ∧ 0 + (ms.map (·.b)).sum ≤ 64 := by
      unfold chkC at h
      rw [if_neg (by omega)] at h
      exact chkZ_zero _ ms 0 h (by decide)
    have hb : ∀ x ∈ ms, 0 ≤ x.b := fun x hx => (cfD_bd (hz.1 x hx)).1
    have hs : sumB (ms.map Mz.q) ms.length ≤ 64 := by
      unfold sumB
      rw [List.take_of_length_le (by simp)]
      have := sum_q ms hb
      omega
    refine (pack_O p m cg lst ad g off ms.length cap (ms.map Mz.q) val w hp hm (by simp) had hl (hM.o hb) HC (fun y hy => ?_) hs).mono ?_
    · obtain ⟨x, hx, rfl⟩ := List.mem_map.1 hy
      exact cfD_va ho (hz.1 x hx)
    · rintro e w' ⟨a, h1, h2, h3, h4⟩
      exact .inr ⟨h, a, _, rfl, h1, h2, h3, h4⟩
  · exact (pack_fail _ _ _ h w HC).mono fun e w' ⟨h1, h2⟩ => .inl ⟨h, h1, h2⟩
#print axioms built_items
#print axioms pack_any
end Go.Proofs.YtajllkkbgpijiaaGreatDoor
namespace Go.Proofs.YtajllkkbgpijiaaGreatDoor
open Go.RowKit

/-- A bit of a row. -/
def tb (zs : List Int) (k : Nat) : Bool := (zs.getD (k / 8) 0).toNat.testBit (k % 8)
theorem oct_getD {zs : List Int} (h : Oct zs) (k : Nat) : 0 ≤ zs.getD k 0 ∧ zs.getD k 0 < 256 := by
  rw [List.getD_eq_getElem?_getD]
  cases hq : zs[k]? with
  | none => simp
  | some x => exact h x (List.mem_of_getElem? hq)
theorem bitA_tb {zs : List Int} (h : Oct zs) (k : Nat) : bitA zs k = if tb zs k = true then 1 else 0 := by
  obtain ⟨h0, h1⟩ := oct_getD h (k / 8)
  unfold bitA tb
  generalize zs.getD (k / 8) 0 = x at h0 h1
  obtain ⟨n, rfl⟩ := Int.eq_ofNat_of_zero_le h0
  have hn : n < 256 := by omega
  have e1 : ((n : Int) / 2 ^ (k % 8)) = ((n / 2 ^ (k % 8) : Nat) : Int) := by rw [Int.natCast_ediv, Int.natCast_pow]; rfl
  have hl : n / 2 ^ (k % 8) < 256 := Nat.lt_of_le_of_lt (Nat.div_le_self _ _) hn
  have e2 := u8_and_nat (n / 2 ^ (k % 8)) 1 hl (by decide)
  rw [e1, show (1 : Int) = ((1 : Nat) : Int) from rfl, e2, Nat.and_one_is_mod, Int.toNat_natCast, Nat.testBit_eq_decide_div_mod_eq]
  by_cases hb : n / 2 ^ (k % 8) % 2 = 1
  · simp [hb]
  · have : n / 2 ^ (k % 8) % 2 = 0 := by omega
    simp [this]
/-- A bit as a number. -/
def nb (c : Bool) : Int := if c = true then 1 else 0
theorem nb_nat (c : Bool) : nb c = ((c.toNat : Nat) : Int) := by cases c <;> rfl
theorem orB_val {ys : List Int} (hy : Oct ys) (k : Nat) (c : Bool) : bits .or .u8 (ys.getD (k / 8) 0) (IntKind.u8.wrap (nb c * 2 ^ (k % 8))) = (((ys.getD (k / 8) 0).toNat ||| (c.toNat * 2 ^ (k % 8)) : Nat) : Int) := by
  obtain ⟨h0, h1⟩ := oct_getD hy (k / 8)
  have hp : c.toNat * 2 ^ (k % 8) < 256 := by
    have h8 : k % 8 < 8 := Nat.mod_lt _ (by decide)
    have : 2 ^ (k % 8) ≤ 2 ^ 7 := Nat.pow_le_pow_right (by decide) (by omega)
    cases c <;> simp <;> omega
  have e : nb c * 2 ^ (k % 8) = ((c.toNat * 2 ^ (k % 8) : Nat) : Int) := by rw [nb_nat, Int.natCast_mul, Int.natCast_pow]; rfl
  rw [e, show IntKind.u8.wrap ((c.toNat * 2 ^ (k % 8) : Nat) : Int) = ((c.toNat * 2 ^ (k % 8) : Nat) : Int) by rw [IntKind.wrap_u8']; omega, u8_or _ _ h0 h1 (by omega) (by omega), Int.toNat_natCast]
theorem or_lt {a b : Nat} (ha : a < 256) (hb : b < 256) : a ||| b < 256 := Nat.or_lt_two_pow (n := 8) ha hb
theorem orB_oct {ys : List Int} (hy : Oct ys) (k : Nat) (c : Bool) : Oct (orB ys k (nb c)) := fun n hn => by
  unfold orB at hn
  rw [orB_val hy] at hn
  rcases List.mem_or_eq_of_mem_set hn with h | rfl
  · exact hy n h
  · obtain ⟨h0, h1⟩ := oct_getD hy (k / 8)
    have hp : c.toNat * 2 ^ (k % 8) < 256 := by
      have h8 : k % 8 < 8 := Nat.mod_lt _ (by decide)
      have : 2 ^ (k % 8) ≤ 2 ^ 7 := Nat.pow_le_pow_right (by decide) (by omega)
      cases c <;> simp <;> omega
    have := or_lt (a := (ys.getD (k / 8) 0).toNat) (by omega) hp
    omega
theorem orB_tb {ys : List Int} (hy : Oct ys) (k : Nat) (hk : k / 8 < ys.length) (c : Bool) (j : Nat) : tb (orB ys k (nb c)) j = (tb ys j || (decide (j = k) && c)) := by
  unfold tb orB
  rw [orB_val hy]
  by_cases hj : j / 8 = k / 8
  · rw [hj, List.getD_eq_getElem?_getD, List.getElem?_set_self hk, Option.getD_some, Int.toNat_natCast, Nat.testBit_or]
    congr 1
    rw [Nat.mul_comm, Nat.testBit_two_pow_mul]
    by_cases h2 : j % 8 = k % 8
    · have : j = k := by omega
      subst this
      cases c <;> simp
    · have hne : ¬ j = k := fun e => h2 (by rw [e])
      simp only [hne, decide_false, Bool.false_and]
      by_cases h3 : k % 8 ≤ j % 8
      · simp only [h3, decide_true, Bool.true_and]
        have h4 : j % 8 - k % 8 ≠ 0 := by omega
        cases c
        · simp
        · show Nat.testBit 1 (j % 8 - k % 8) = false
          rw [show (1 : Nat) = 2 ^ 0 from rfl, Nat.testBit_two_pow]
          simp only [decide_eq_false_iff_not]
          omega
      · simp [h3]
  · have hne : ¬ j = k := fun e => hj (by rw [e])
    rw [List.getD_eq_getElem?_getD, List.getElem?_set_ne (fun e => hj e.symm), ← List.getD_eq_getElem?_getD]
    simp [hne]
/-- Bits laid, bit by bit. -/
theorem layL_tb (zs : List Int) (hz : Oct zs) (off fr cnt : Nat) (ys : List Int) (hy : Oct ys) (hl : fr + cnt ≤ 8 * ys.length) : ∀ n, n ≤ cnt → Oct (layL zs off fr ys ((bq cnt).take n)) ∧ ∀ j, tb (layL zs off fr ys ((bq cnt).take n)) j = (tb ys j || (decide (fr ≤ j ∧ j < fr + n) && tb zs (off + (j - fr))))
  | 0, _ => ⟨hy, fun j => by
      rw [show decide (fr ≤ j ∧ j < fr + 0) = false by rw [decide_eq_false_iff_not]; omega]
      simp [layL]⟩
  | n + 1, hn => by
    obtain ⟨h1, h2⟩ := layL_tb zs hz off fr cnt ys hy hl n (by omega)
    rw [← bq_at cnt n (by omega), layL_app, bitA_tb hz]
    have e : (if tb zs (off + n) = true then (1 : Int) else 0) = nb (tb zs (off + n)) := rfl
    rw [e]
    refine ⟨orB_oct h1 _ _, fun j => ?_⟩
    rw [orB_tb h1 _ (by rw [layL_len]; show (fr + n) / 8 < _; omega), h2 j, Bool.or_assoc]
    congr 1
    by_cases hj : j = fr + n
    · subst hj
      have c1 : ¬ (fr ≤ fr + n ∧ fr + n < fr + n) := by omega
      have c2 : fr ≤ fr + n ∧ fr + n < fr + (n + 1) := by omega
      have c3 : fr + n - fr = n := by omega
      simp [c3]
    · have : (fr ≤ j ∧ j < fr + n) ↔ (fr ≤ j ∧ j < fr + (n + 1)) := by omega
      simp [hj, this]
theorem layB_tb (zs : List Int) (hz : Oct zs) (off cnt fr : Nat) (ys : List Int) (hy : Oct ys) (hl : fr + cnt ≤ 8 * ys.length) : Oct (layB zs off cnt fr ys) ∧ ∀ j, tb (layB zs off cnt fr ys) j = (tb ys j || (decide (fr ≤ j ∧ j < fr + cnt) && tb zs (off + (j - fr)))) := by
  have := layL_tb zs hz off fr cnt ys hy hl cnt (Nat.le_refl _)
  rw [List.take_of_length_le (by rw [bq_len]; omega)] at this
  exact this
theorem tb_zero (R j : Nat) : tb (List.replicate R 0) j = false := by
  unfold tb
  rw [List.getD_eq_getElem?_getD, List.getElem?_replicate]
  split <;> simp
/-- What has been packed of the first ones, bit by bit. -/
theorem pk_tb (ms : List Mq) (val : Int → Int → List Int) (hv : ∀ x ∈ ms, Oct (val x.i x.s)) (R : Nat) (hR : sumB ms ms.length ≤ 8 * R) : ∀ k, k ≤ ms.length → Oct (pk ms val R k) ∧ (∀ j, sumB ms k ≤ j → tb (pk ms val R k) j = false) ∧ ∀ i x j, i < k → ms[i]? = some x → sumB ms i ≤ j → j < sumB ms (i + 1) → tb (pk ms val R k) j = tb (val x.i x.s) (j - sumB ms i)
  | 0, _ => ⟨fun n hn => by have := (List.mem_replicate.1 hn).2; subst this; decide, fun j _ => tb_zero R j, fun i x j hi => by omega⟩
  | k + 1, hk => by
    obtain ⟨h1, h2, h3⟩ := pk_tb ms val hv R hR k (by omega)
    obtain ⟨x, hx⟩ : ∃ x, ms[k]? = some x := ⟨_, List.getElem?_eq_getElem (by omega)⟩
    have hs := sumB_succ hx
    have hle := sumB_le ms (k := k + 1) (j := ms.length) hk
    obtain ⟨g1, g2⟩ := layB_tb (val x.i x.s) (hv x (List.mem_of_getElem? hx)) 0 x.b (sumB ms k) (pk ms val R k) h1 (by rw [pk_len]; omega)
    rw [pk_succ hx]
    refine ⟨g1, fun j hj => ?_, fun i y j hi hy hj1 hj2 => ?_⟩
    · rw [g2, h2 j (by omega)]
      have : ¬ (sumB ms k ≤ j ∧ j < sumB ms k + x.b) := by omega
      simp [this]
    · rw [g2]
      by_cases hik : i = k
      · subst hik
        rw [hx] at hy
        cases hy
        rw [h2 j hj1]
        have : sumB ms i ≤ j ∧ j < sumB ms i + x.b := by omega
        simp [this]
      · have hl := sumB_le ms (k := i + 1) (j := k) (by omega)
        rw [h3 i y j (by omega) hy hj1 hj2]
        have : ¬ (sumB ms k ≤ j ∧ j < sumB ms k + x.b) := by omega
        simp [this]
#print axioms pk_tb
end Go.Proofs.YtajllkkbgpijiaaGreatDoor
namespace Go.Proofs.YtajllkkbgpijiaaGreatDoor
open Go.RowKit

/-- Is a Map a gap? -/
def gpB (x : Mq) : Bool := gapB x.i x.s (x.b : Int)
/-- The code of values that are refused. -/
def unC (mc : Mq → List Int → Int) (zs : List Int) : List Mq → Nat → Int
  | [], _ => 0
  | x :: l, n => if gpB x = true then unC mc zs l (n + x.b) else if mc x (tkB zs n x.b) ≠ 0 then mc x (tkB zs n x.b) else unC mc zs l (n + x.b)
/-- The values that are unpacked. -/
def unV (zs : List Int) : List Mq → Nat → List (Int × Int × List Int)
  | [], _ => []
  | x :: l, n => if gpB x = true then unV zs l (n + x.b) else (x.i, x.s, tkB zs n x.b) :: unV zs l (n + x.b)
/-- Values in memory. -/
def Vs (W : World) (base : Nat) (us : List Vq) (rs : List (Int × Int × List Int)) : Prop := us.length = rs.length ∧ ∀ (j : Nat) (r : Int × Int × List Int), rs[j]? = some r → ∃ g, us[j]? = some ⟨r.1, r.2.1, g, r.2.2.length⟩ ∧ (base ≤ g ∧ ∀ (k : Nat) (u : Vq), k < j → us[k]? = some u → u.g < g) ∧ W.heap[g]? = some (.cells (r.2.2.map (Value.int .u8)).toArray 5 (0, 0))
theorem vs_nil (W : World) (base : Nat) : Vs W base [] [] := ⟨rfl, fun j r h => by simp at h⟩
theorem Vs.mv {W W' : World} {base : Nat} {us : List Vq} {rs : List (Int × Int × List Int)} (h : Vs W base us rs) (hk : ∀ (g : Nat) (C : Array Value), W.heap[g]? = some (.cells C 5 (0, 0)) → W'.heap[g]? = some (.cells C 5 (0, 0))) : Vs W' base us rs := ⟨h.1, fun j r hr => by
  obtain ⟨g, h1, h2, h3⟩ := h.2 j r hr
  exact ⟨g, h1, h2, hk _ _ h3⟩⟩
theorem Vs.lt {W : World} {base : Nat} {us : List Vq} {rs : List (Int × Int × List Int)} (h : Vs W base us rs) (k : Nat) (u : Vq) (hu : us[k]? = some u) : u.g < W.heap.size := by
  have hk := (List.getElem?_eq_some_iff.1 hu).1
  have hk2 : k < rs.length := by rw [← h.1]; exact hk
  obtain ⟨g, h1, _, h3⟩ := h.2 k rs[k] (List.getElem?_eq_getElem hk2)
  rw [hu] at h1
  cases h1
  exact lt_of_heap h3
theorem Vs.app {W : World} {base : Nat} {us : List Vq} {rs : List (Int × Int × List Int)} (h : Vs W base us rs) {i s : Int} {zb : List Int} {g n : Nat} (hn : zb.length = n) (hg : base ≤ g) (hgt : ∀ (k : Nat) (u : Vq), us[k]? = some u → u.g < g) (hh : W.heap[g]? = some (.cells (zb.map (Value.int .u8)).toArray 5 (0, 0))) : Vs W base (us ++ [⟨i, s, g, n⟩]) (rs ++ [(i, s, zb)]) := by
  refine ⟨by simp [h.1], fun j r hr => ?_⟩
  have hl := h.1
  rcases Nat.lt_or_ge j rs.length with hj | hj
  · rw [List.getElem?_append_left hj] at hr
    obtain ⟨g', h1, h2, h3⟩ := h.2 j r hr
    exact ⟨g', by rw [List.getElem?_append_left (by omega)]; exact h1, ⟨h2.1, fun k u hk hu => h2.2 k u hk (by rw [List.getElem?_append_left (by omega)] at hu; exact hu)⟩, h3⟩
  · rw [List.getElem?_append_right hj] at hr
    have h0 : j - rs.length = 0 := by
      have := (List.getElem?_eq_some_iff.1 hr).1
      simp at this
      omega
    rw [h0] at hr
    simp at hr
    subst hr
    exact ⟨g, by rw [List.getElem?_append_right (by omega), hl, h0]; simp [hn], ⟨hg, fun k u hk hu => hgt k u (by rw [List.getElem?_append_left (by omega)] at hu; exact hu)⟩, hh⟩
/-- What Unpack answers. -/
def UPost (w : World) (RES : Int) (ROWS : List (Int × Int × List Int)) (e : Ending) (w' : World) : Prop := ((RES ≠ 0 ∧ e = .returned (.tuple #[.slice none 0 0, .int .u32 RES])) ∨ (RES = 0 ∧ ∃ v us, e = .returned (.tuple #[v, .int .u32 0]) ∧ IsV w' w.heap.size v us ∧ Vs w' w.heap.size us ROWS)) ∧ Below w.heap.size w w'
theorem tkB_oct {zs : List Int} (hz : Oct zs) (nx n : Nat) : Oct (tkB zs nx n) := (layB_tb zs hz nx n 0 (List.replicate ((n + 7) / 8) 0) (fun y hy => by have := (List.mem_replicate.1 hy).2; subst this; decide) (by simp; omega)).1
set_option linter.unusedSimpArgs false in
set_option maxHeartbeats 4000000 in
set_option maxRecDepth 100000 in
theorem may_code (p m : Nat) (cg : Int) (lst : Mp) (i s : Int) (nm : ByteArray) (t rt : Int) (d : Option Addr) (ld cd : Nat) (l : Option Addr) (ll cl : Nat) (h : Option Addr) (lh ch : Nat) (tg gr : Int) (v : Option Addr) (lv cv : Nat) (b : Option Addr) (lb cb : Nat) (zb zl zh : List Int) (w : World) (hp : w.heap[p]? = some (.cells #[.map (some m), .int .i64 cg] 91 (0, 0))) (hm : IsM w m lst) (hl : lookP lst i s = some (.agg (itC i s nm t rt d ld cd l ll cl h lh ch tg gr v lv cv))) (rb : SlOk w b lb cb zb) (rl : SlOk w l ll cl zl) (rh : SlOk w h lh ch zh) (hT : Ty.Tab64 w)
    (hr : (bits .and .u8 rt 2 != 0) = true) (c : Int) (hc : Ty.chkN t zb zl zh = c) :
    Calls Tryz.prog 25 #[.pointer (some ⟨p, 0, none⟩), plV i s, .slice b lb cb] w fun e w' => ∃ g, e = .returned (.tuple #[.int .u8 g, .int .u32 c]) ∧ Below w.heap.size w w' := by
  have HF : Hid (∀ W, Below w.heap.size w W → Calls Tryz.prog 41 #[.pointer (some ⟨p, 0, none⟩), plV i s] W fun e w' => e = .returned (.tuple #[.agg (itC i s nm t rt d ld cd l ll cl h lh ch tg gr v lv cv), .int .u32 0]) ∧ Below W.heap.size W w') := fun W hb => find_at p m cg lst i s nm t rt d ld cd l ll cl h lh ch tg gr v lv cv W (blk11 hb hp) (hm.next hb) hl
  have HH : Hid (∀ W, Calls Tryz.prog 48 #[.agg (itC i s nm t rt d ld cd l ll cl h lh ch tg gr v lv cv), .int .u8 2] W fun e w' => e = .returned (.bool true) ∧ Below W.heap.size W w') := fun W => by
    have := has_any i s nm t rt d ld cd l ll cl h lh ch tg gr v lv cv 2 W
    rw [hr] at this
    exact this
  have HC : Hid (∀ W, Below w.heap.size w W → Calls Tryz.prog 49 #[.agg (itC i s nm t rt d ld cd l ll cl h lh ch tg gr v lv cv), .slice b lb cb] W fun e w' => e = .returned (.int .u32 c) ∧ Below W.heap.size W w') := fun W hb => by
    have := icheck_any i s nm t rt d ld cd l ll cl h lh ch tg gr v lv cv b lb cb zb zl zh W (rb.next hb) (rl.next hb) (rh.next hb) (tab_next hT hb)
    rw [hc] at this
    exact this
  clear hp hm hl rb rl rh hT hr hc
  go_enter Tryz.func25, Tryz.ntmps25
  go_wp2_with fail
  refine (HF.out _ (by repeat (first | exact Below.refl _ _ | apply Below.drew | apply Below.al))).mono ?_
  rintro e w1 ⟨rfl, hb⟩
  have B1 : Hid (Below w.heap.size w w1) := Below.andThen (by repeat (first | exact Below.refl _ _ | apply Below.drew | apply Below.al)) hb
  clear hb
  go_wp2_with fail
  refine (HH.out _).mono ?_
  rintro e w2 ⟨rfl, hb⟩
  have B2 : Hid (Below w.heap.size w w2) := Below.andThen (Below.al B1.out _) hb
  have X2 : Hid (w2.heap[w1.heap.size]? = some (.cells (itC i s nm t rt d ld cd l ll cl h lh ch tg gr v lv cv) 95 (0, 0))) := blk11 hb (at11 _ _ _ rfl)
  have l2 := lt_of_heap X2.out
  clear hb
  go_wp2_with (refine wpList_load_by rfl 95 _ rfl ⟨w1.heap.size, 0, none⟩ _ rfl (loadI _ _ i s nm t rt d ld cd l ll cl h lh ch tg gr v lv cv _ X2.out) ?_)
  refine (HC.out _ B2.out).mono ?_
  rintro e w3 ⟨rfl, hb⟩
  have B3 : Hid (Below w.heap.size w w3) := Below.andThen B2.out hb
  have X3 : Hid (w3.heap[w1.heap.size]? = some (.cells (itC i s nm t rt d ld cd l ll cl h lh ch tg gr v lv cv) 95 (0, 0))) := blk11 hb X2.out
  have c8 : w3.cell? ⟨w1.heap.size, 8, none⟩ = some (.int .u8 tg) := by rw [cell_of_row _ _ 8 _ _ _ X3.out]; rfl
  clear hb
  by_cases hc0 : c = 0
  · subst hc0
    go_wp2_with fail
    go_ret2
    exact ⟨_, rfl, B3.out⟩
  · go_wp2_with fail
    go_ret2
    exact ⟨_, rfl, B3.out⟩

set_option linter.unusedSimpArgs false in
set_option maxHeartbeats 4000000 in
set_option maxRecDepth 100000 in
theorem unpack_O (pv : Value) (ad : Option Addr) (gm off N cap : Nat) (ms : List Mq) (mc : Mq → List Int → Int) (a : Option Addr) (len capb : Nat) (zs : List Int) (w : World) (hN : ms.length = N) (had : 0 < N → ad = some ⟨gm, off, none⟩) (h64 : N ≤ 64) (hM : MsO w gm off ms) (hI : ∀ x ∈ ms, 0 ≤ x.i ∧ x.i < 65536) (hC : ∀ W, Below w.heap.size w W → Calls Tryz.prog 18 #[pv, .slice ad N cap, .bool false] W fun e w' => e = .returned (.int .u32 0) ∧ Below W.heap.size W w') (hs : sumB ms N ≤ 64) (hr : Row w a len zs) (hlen : (sumB ms N + 7) / 8 ≤ len) (hlen2 : len ≤ 1000)
    (HMay : ∀ W, Below w.heap.size w W → ∀ x ∈ ms, gpB x = false → ∀ zb g, zb.length = (x.b + 7) / 8 → Oct zb → W.heap[g]? = some (.cells (zb.map (Value.int .u8)).toArray 5 (0, 0)) → Calls Tryz.prog 25 #[pv, plV x.i x.s, .slice (some ⟨g, 0, none⟩) ((x.b + 7) / 8) ((x.b + 7) / 8)] W fun e w' => ∃ tg, e = .returned (.tuple #[.int .u8 tg, .int .u32 (mc x zb)]) ∧ Below W.heap.size W w') :
    Calls Tryz.prog 7 #[pv, .slice ad N cap, .slice a len capb] w fun e w' => UPost w (unC mc zs ms 0) (unV zs ms 0) e w' := by
  obtain ⟨R, hR⟩ : ∃ R, Hid (R = (sumB ms N + 7) / 8) := ⟨_, rfl⟩
  have HC : Hid (∀ W, Below w.heap.size w W → Calls Tryz.prog 18 #[pv, .slice ad N cap, .bool false] W fun e w' => e = .returned (.int .u32 0) ∧ Below W.heap.size W w') := hC
  have HS : Hid (∀ W, Below w.heap.size w W → Calls Tryz.prog 19 #[.slice ad N cap] W fun e w' => e = .returned (.int .i64 (R : Int)) ∧ Below W.heap.size W w') := fun W hb => by rw [hR.out]; exact size_O ad gm off N cap had ms W hN h64 (hM.next hb) hs
  have HI : Hid (∀ x ∈ ms, 0 ≤ x.i ∧ x.i < 65536) := hI
  have HY : Hid (∀ W, Below w.heap.size w W → ∀ x ∈ ms, gpB x = false → ∀ zb g, zb.length = (x.b + 7) / 8 → Oct zb → W.heap[g]? = some (.cells (zb.map (Value.int .u8)).toArray 5 (0, 0)) → Calls Tryz.prog 25 #[pv, plV x.i x.s, .slice (some ⟨g, 0, none⟩) ((x.b + 7) / 8) ((x.b + 7) / 8)] W fun e w' => ∃ tg, e = .returned (.tuple #[.int .u8 tg, .int .u32 (mc x zb)]) ∧ Below W.heap.size W w') := HMay
  have HAD : Hid (0 < N → ad = some ⟨gm, off, none⟩) := had
  obtain ⟨RES, hRES⟩ : ∃ RES, Hid (RES = unC mc zs ms 0) := ⟨_, rfl⟩
  obtain ⟨ROWS, hROWS⟩ : ∃ ROWS, Hid (ROWS = unV zs ms 0) := ⟨_, rfl⟩
  rw [← hRES.out, ← hROWS.out]
  have HM : Hid (MsO w gm off ms) := hM
  have HW : Hid (Row w a len zs) := hr
  have hRl : R ≤ len := by have := hR.out; omega
  clear hM hr HMay hI hC had
  go_enter Tryz.func7, Tryz.ntmps7
  go_wp2_with fail
  refine (HC.out _ (by repeat (first | exact Below.refl _ _ | apply Below.drew | apply Below.al))).mono ?_
  rintro e w1 ⟨rfl, hb1⟩
  have B1 : Hid (Below w.heap.size w w1) := Below.andThen (by repeat (first | exact Below.refl _ _ | apply Below.drew | apply Below.al)) hb1
  have HB1 : Hid (w1.heap[w.heap.size]? = some (.cells #[.slice a len capb] 24 (0, 0))) := blk11 hb1 (at11 _ _ _ rfl)
  clear hb1
  go_wp2_with fail
  refine wp_region_held_drew (S := fun z => Below w1.heap.size w1 z) (by kernel_rfl) (Below.drew (Below.refl _ _)) (fun hHeld => ?_)
  refine tk 0 (.slice a len capb) rfl (.inl ⟨by rfl, ?_⟩) ?_
  · intro w9 hSw
    try dsimp only at hSw
    have c9 : w9.cell? ⟨w.heap.size, 0, none⟩ = some (.slice a len capb) := by rw [cell_of_row _ _ 0 _ _ _ (blk11 hSw HB1.out)]; rfl
    go_simp
    all_goals try assumption
  try simp only [Act.put, gA, gS, gZ, sA, sZ, sS]
  refine tk 1 (.int .i64 (len : Int)) rfl (.inl ⟨by rfl, ?_⟩) ?_
  · intro w9 hSw
    try dsimp only at hSw
    go_simp
    all_goals try decide
    all_goals try assumption
    all_goals try omega
  try simp only [Act.put, gA, gS, gZ, sA, sZ, sS]
  refine tk 2 (.slice ad N cap) rfl (.inl ⟨by rfl, ?_⟩) ?_
  · intro w9 hSw
    try dsimp only at hSw
    go_simp
    all_goals try decide
    all_goals try assumption
    all_goals try omega
  try simp only [Act.put, gA, gS, gZ, sA, sZ, sS]
  refine wpAnyH_ready (rs := [3]) (by kernel_rfl) (by simp) ?_
  refine AllReadyH.cons rfl (fun K' hK => ?_) AllReadyH.nil
  rw [if_pos (by rfl)]
  simp only [gA, gS, gZ]
  go_wp2_with fail
  refine (HS.out _ (Below.andThen B1.out (Below.drew (Below.refl _ _)))).mono ?_
  rintro e z3 ⟨rfl, hb3⟩
  have N3 : Hid (Below w1.heap.size w1 z3) := Below.andThen (Below.drew (Below.refl _ _)) hb3
  clear hb3
  try go_wp2_with fail
  refine hK.out _ _ (N3.out) (fun hHeld => ?_)
  clear hK K'
  try simp only [Act.put, gA, gS, gZ, sA, sZ, sS]
  refine tk 4 (.bool false) rfl (.inl ⟨by rfl, ?_⟩) ?_
  · intro w9 hSw
    try dsimp only at hSw
    have q1 : ¬ ((len : Int) < (R : Int)) := by omega
    go_simp
    all_goals try omega
  try simp only [Act.put, gA, gS, gZ, sA, sZ, sS]
  refine wpAnyH_done (by kernel_rfl) ?_ _
  have B3 : Hid (Below w.heap.size w z3) := Below.andThen B1.out hHeld
  have HB3 : Hid (z3.heap[w.heap.size]? = some (.cells #[.slice a len capb] 24 (0, 0))) := blk11 hHeld HB1.out
  clear hHeld N3
  go_wp2_with fail
  obtain ⟨Bx, hBx⟩ : ∃ Bx, Hid (Bx = z3.heap.size) := ⟨_, rfl⟩
  rw [← hBx.out]
  have BX0 : Hid ((z3.alloc (.cells #[.int .i64 0] 3)).heap[Bx]? = some (.cells #[.int .i64 0] 3 (0, 0))) := by show _ = _; rw [hBx.out]; exact heap_new _ _
  have nBx : Bx ≠ w.heap.size := by have := lt_of_heap HB3.out; have := hBx.out; omega
  have gBx : w.heap.size ≤ Bx := by have := B3.out.size; have := hBx.out; omega
  go_loopw [11, 31] (fun u11 iv wr => ∃ (k : Nat) (us : List Vq) (rs : List (Int × Int × List Int)), k ≤ N ∧ iv = .int .i64 (k : Int) ∧ Hid (IsV wr w.heap.size u11 us ∧ us.length ≤ k ∧ Vs wr w.heap.size us rs ∧ RES = unC mc zs (ms.drop k) (sumB ms k) ∧ ROWS = rs ++ unV zs (ms.drop k) (sumB ms k) ∧ wr.heap[w.heap.size]? = some (.cells #[.slice a len capb] 24 (0, 0)) ∧ wr.heap[Bx]? = some (.cells #[.int .i64 ((sumB ms k : Nat) : Int)] 3 (0, 0)) ∧ Below w.heap.size w wr)) (fun _ iv _ => N - (intOf iv).toNat)
  case atStart => exact ⟨0, [], [], Nat.zero_le _, rfl, isV_nil _ _, Nat.le_refl _, vs_nil _ _, hRES.out, hROWS.out, ext11 HB3.out, BX0.out, Below.al B3.out _⟩
  case round =>
    obtain ⟨k, us, rs, hk, rfl, HR⟩ := hrel
    by_cases hkN : k < N
    · obtain rfl := HAD.out (by omega)
      have gk : (k : Int) < (N : Int) := by omega
      have gk0 : (0 : Int) ≤ (k : Int) := by omega
      obtain ⟨x, hx⟩ : ∃ x, ms[k]? = some x := ⟨_, List.getElem?_eq_getElem (by omega)⟩
      obtain ⟨r1, r2, r3, rC, rV, r4, r5, r6⟩ := HR.out
      obtain ⟨c0, c1, c2⟩ := (HM.out.next r6) k x hx
      have HXm : Hid (x ∈ ms) := List.mem_of_getElem? hx
      have SS : Hid (sumB ms (k + 1) = sumB ms k + x.b) := sumB_succ hx
      have SL : Hid (sumB ms (k + 1) ≤ sumB ms N) := sumB_le ms (by omega)
      have wk : IntKind.i64.wrap ((k : Int) + 1) = ((k + 1 : Nat) : Int) := by rw [IntKind.wrap_i64]; omega
      have DR : ms.drop k = x :: ms.drop (k + 1) := by
        obtain ⟨hk2, he⟩ := List.getElem?_eq_some_iff.1 hx
        rw [List.drop_eq_getElem_cons hk2, he]
      have RC : Hid (RES = if gpB x = true then unC mc zs (ms.drop (k + 1)) (sumB ms (k + 1)) else if mc x (tkB zs (sumB ms k) x.b) ≠ 0 then mc x (tkB zs (sumB ms k) x.b) else unC mc zs (ms.drop (k + 1)) (sumB ms (k + 1))) := by
        show _ = _
        rw [rC, DR, SS.out]
        rfl
      have RV : Hid (ROWS = rs ++ if gpB x = true then unV zs (ms.drop (k + 1)) (sumB ms (k + 1)) else (x.i, x.s, tkB zs (sumB ms k) x.b) :: unV zs (ms.drop (k + 1)) (sumB ms (k + 1))) := by
        show _ = _
        rw [rV, DR, SS.out]
        rfl
      have OT : Hid (Oct (tkB zs (sumB ms k) x.b)) := tkB_oct HW.out.oct _ _
      have R1 : Hid (IsV wr w.heap.size u11 us) := r1
      have R2 : Hid (us.length ≤ k) := r2
      have R3 : Hid (Vs wr w.heap.size us rs) := r3
      have R4 : Hid (wr.heap[w.heap.size]? = some (.cells #[.slice a len capb] 24 (0, 0))) := r4
      have R5 : Hid (wr.heap[Bx]? = some (.cells #[.int .i64 ((sumB ms k : Nat) : Int)] 3 (0, 0))) := r5
      have R6 : Hid (Below w.heap.size w wr) := r6
      clear r1 r2 r3 r4 r5 r6 rC rV DR HR hx
      go_wp2_with fail
      refine (take_any x.b (sumB ms k) w.heap.size Bx a len capb zs _ (ext11 R4.out) (ext11 R5.out) ((HW.out.next R6.out).next (by repeat (first | exact Below.refl _ _ | apply Below.drew | apply Below.al))) (by have := SS.out; have := SL.out; omega) (by have := SS.out; have := SL.out; have := hR.out; omega) (by omega)).mono ?_
      rintro e w2 ⟨g, rfl, hg, g2, x2, k2⟩
      have lBx : Bx < wr.heap.size := lt_of_heap R5.out
      have hgw : wr.heap.size + 1 ≤ g := by simpa using hg
      have X2 : Hid (w2.heap[wr.heap.size]? = some (.cells #[.int .u16 x.i, .int .u8 x.s, .int .i64 (x.b : Int)] 73 (0, 0))) := k2.at (by simp; omega) (at11 _ _ _ rfl)
      have G2 : Hid (w2.heap[g]? = some (.cells ((tkB zs (sumB ms k) x.b).map (Value.int .u8)).toArray 5 (0, 0))) := g2
      have XX2 : Hid (w2.heap[Bx]? = some (.cells #[.int .i64 ((sumB ms (k + 1) : Nat) : Int)] 3 (0, 0))) := by rw [SS.out]; exact x2
      have B2 : Hid (Below w.heap.size w w2) := Kp.below (Below.al R6.out _) k2 (by have := R6.out.size; simp; omega) (by simp; omega)
      have V2 : Hid (IsV w2 w.heap.size u11 us) := (R1.out.next (Below.al (Below.refl _ _) (.cells #[.int .u16 x.i, .int .u8 x.s, .int .i64 (x.b : Int)] 73))).same fun kk hkk => k2.block kk (by have := (R1.out.lt kk hkk).2; simp; omega) (by
        intro hmm
        simp at hmm
        subst hmm
        exact R1.out.ne R5.out (by decide) hkk.symm)
      have J2 : Hid (Vs w2 w.heap.size us rs) := R3.out.mv fun g' C hg' => k2.at (by
        intro hmm
        simp at hmm
        subst hmm
        rw [R5.out] at hg'
        simp at hg') (ext11 hg')
      have A2 : Hid (w2.heap[w.heap.size]? = some (.cells #[.slice a len capb] 24 (0, 0))) := k2.at (by simp; omega) (ext11 R4.out)
      have d0 : w2.cell? ⟨wr.heap.size, 0, none⟩ = some (.int .u16 x.i) := by rw [cell_of_row _ _ 0 _ _ _ X2.out]; rfl
      have d1 : w2.cell? ⟨wr.heap.size, 1, none⟩ = some (.int .u8 x.s) := by rw [cell_of_row _ _ 1 _ _ _ X2.out]; rfl
      have d2 : w2.cell? ⟨wr.heap.size, 2, none⟩ = some (.int .i64 (x.b : Int)) := by rw [cell_of_row _ _ 2 _ _ _ X2.out]; rfl
      have hi := HI.out x HXm.out
      have R6s : Hid (w.heap.size ≤ g) := by show w.heap.size ≤ g; have := R6.out.size; omega
      have LT9 : Hid (∀ (k : Nat) (u : Vq), us[k]? = some u → u.g < g) := fun k9 u hu => by have := R3.out.lt k9 u hu; omega
      clear hg g2 x2 k2 c0 c1 c2 R1 R3 R4 R5 R6
      go_wp2_with fail
      obtain ⟨gp, hgp⟩ : ∃ gp, Hid (gp = gpB x) := ⟨_, rfl⟩
      rw [← hgp.out] at RC RV
      have GP := isGap_any x.i x.s x.b w2 hi.1 hi.2
      rw [show gapB x.i x.s x.b = gp from hgp.out.symm] at GP
      refine GP.mono ?_
      rintro e w3 ⟨rfl, hb3⟩
      clear GP
      have B3 : Hid (Below w.heap.size w w3) := Below.andThen B2.out hb3
      have N3 : Hid (Below w2.heap.size w2 w3) := hb3
      have X3 := blk11 hb3 X2.out
      have e0 : w3.cell? ⟨wr.heap.size, 0, none⟩ = some (.int .u16 x.i) := by rw [cell_of_row _ _ 0 _ _ _ X3]; rfl
      have e1 : w3.cell? ⟨wr.heap.size, 1, none⟩ = some (.int .u8 x.s) := by rw [cell_of_row _ _ 1 _ _ _ X3]; rfl
      have HX3 : Hid (w3.heap[wr.heap.size]? = some (.cells #[.int .u16 x.i, .int .u8 x.s, .int .i64 (x.b : Int)] 73 (0, 0))) := X3
      clear hb3 d0 d1 d2 X3
      cases gp with
      | true =>
        have FR : Hid (IsV w3 w.heap.size u11 us ∧ us.length ≤ k + 1 ∧ Vs w3 w.heap.size us rs ∧ RES = unC mc zs (ms.drop (k + 1)) (sumB ms (k + 1)) ∧ ROWS = rs ++ unV zs (ms.drop (k + 1)) (sumB ms (k + 1)) ∧ w3.heap[w.heap.size]? = some (.cells #[.slice a len capb] 24 (0, 0)) ∧ w3.heap[Bx]? = some (.cells #[.int .i64 ((sumB ms (k + 1) : Nat) : Int)] 3 (0, 0)) ∧ Below w.heap.size w w3) := by
          refine ⟨V2.out.next N3.out, by have := R2.out; omega, J2.out.mv fun g' C hg' => blk11 N3.out hg', ?_, ?_, blk11 N3.out A2.out, blk11 N3.out XX2.out, B3.out⟩
          · rw [RC.out]; simp
          · rw [RV.out]; simp
        clear RC RV
        go_wp2_with fail
        exact ⟨⟨k + 1, us, rs, by omega, by go_num, FR.out⟩, by simp [intOf]; omega⟩
      | false =>
        obtain ⟨y, hy⟩ : ∃ y, Hid (y = mc x (tkB zs (sumB ms k) x.b)) := ⟨_, rfl⟩
        rw [← hy.out] at RC
        have MY := HY.out w3 B3.out x HXm.out hgp.out.symm (tkB zs (sumB ms k) x.b) g (tkB_len _ _ _) OT.out (blk11 N3.out G2.out)
        rw [← hy.out] at MY
        go_wp2_with fail
        refine MY.mono ?_
        clear MY
        rintro e w4 ⟨tg, rfl, hb4⟩
        have B4 : Hid (Below w.heap.size w w4) := Below.andThen B3.out hb4
        have N4 : Hid (Below w2.heap.size w2 w4) := Below.andThen N3.out hb4
        have X4 := blk11 hb4 HX3.out
        have f0 : w4.cell? ⟨wr.heap.size, 0, none⟩ = some (.int .u16 x.i) := by rw [cell_of_row _ _ 0 _ _ _ X4]; rfl
        have f1 : w4.cell? ⟨wr.heap.size, 1, none⟩ = some (.int .u8 x.s) := by rw [cell_of_row _ _ 1 _ _ _ X4]; rfl
        have V4 : Hid (IsV w4 w.heap.size u11 us) := V2.out.next N4.out
        clear hb4 e0 e1 X4
        by_cases hy0 : y = 0
        case neg =>
          have FR : Hid (∀ e, e = .returned (.tuple #[.slice none 0 0, .int .u32 y]) → UPost w RES ROWS e w4) := fun e he => by
            have hres : RES = y := by rw [RC.out]; simp [hy0]
            exact ⟨.inl ⟨by rw [hres]; exact hy0, by rw [hres]; exact he⟩, B4.out⟩
          clear RC RV
          go_wp2_with fail
          go_ret2
          exact FR.out _ rfl
        subst hy0
        have RC2 : Hid (RES = unC mc zs (ms.drop (k + 1)) (sumB ms (k + 1))) := by show _ = _; rw [RC.out]; simp
        have RV2 : Hid (ROWS = (rs ++ [(x.i, x.s, tkB zs (sumB ms k) x.b)]) ++ unV zs (ms.drop (k + 1)) (sumB ms (k + 1))) := by show _ = _; rw [RV.out]; simp
        clear RC RV
        have hul : us.length ≤ 1000000 := by have := R2.out; omega
        go_wp2_with (first | (at_builtin; refine wpList_append_value rfl _ _ rfl w.heap.size u11 us rfl (V4.out.next (by repeat (first | exact Below.refl _ _ | apply Below.drew | apply Below.al))) ⟨w4.heap.size, 0, none⟩ ⟨x.i, x.s, g, (x.b + 7) / 8⟩ rfl ?q1 hul ?q2 ?_) | go_in)
        case q1 =>
          intro j u hj
          rw [Addr.add_lit, Nat.zero_add]
          match j, hj with
          | 0, hj => rw [cell_of_row _ _ 0 _ _ _ (at11 _ _ _ rfl)]; simpa [Vq.L] using hj
          | 1, hj => rw [cell_of_row _ _ 1 _ _ _ (at11 _ _ _ rfl)]; simpa [Vq.L] using hj
          | 2, hj => rw [cell_of_row _ _ 2 _ _ _ (at11 _ _ _ rfl)]; simpa [Vq.L] using hj
        case q2 => have := B4.out.size; simp; omega
        intro v' z hz hgr
        have KEEP : ∀ (b : Nat) (C : Array Value) (T : TypeId) (f : Nat × Nat), w4.heap[b]? = some (.cells C T f) → T ≠ 45 → z.heap[b]? = some (.cells C T f) := fun b C T f hb hT => by
          rw [hgr.block b (by have := lt_of_heap hb; simp; omega) (V4.out.ne hb hT), Below.heap_alloc _ _ _ (lt_of_heap hb)]
          exact hb
        have BZ : Hid (Below w.heap.size w z) := ⟨hgr.os.trans B4.out.os, hgr.tape.trans B4.out.tape, hgr.output.trans B4.out.output, by have := hgr.size; simp at this; have := B4.out.size; omega, fun kk hkk => by
          have s4 := B4.out.size
          rw [hgr.block kk (by simp; omega) (fun e => by have := (V4.out.lt kk e.symm).1; omega), Below.heap_alloc _ _ _ (by omega)]
          exact B4.out.block kk hkk⟩
        have FIN : Hid (IsV z w.heap.size v' (us ++ [⟨x.i, x.s, g, (x.b + 7) / 8⟩]) ∧ (us ++ [(⟨x.i, x.s, g, (x.b + 7) / 8⟩ : Vq)]).length ≤ k + 1 ∧ Vs z w.heap.size (us ++ [(⟨x.i, x.s, g, (x.b + 7) / 8⟩ : Vq)]) (rs ++ [(x.i, x.s, tkB zs (sumB ms k) x.b)]) ∧ RES = unC mc zs (ms.drop (k + 1)) (sumB ms (k + 1)) ∧ ROWS = (rs ++ [(x.i, x.s, tkB zs (sumB ms k) x.b)]) ++ unV zs (ms.drop (k + 1)) (sumB ms (k + 1)) ∧ z.heap[w.heap.size]? = some (.cells #[.slice a len capb] 24 (0, 0)) ∧ z.heap[Bx]? = some (.cells #[.int .i64 ((sumB ms (k + 1) : Nat) : Int)] 3 (0, 0)) ∧ Below w.heap.size w z) := by
          refine ⟨hz, by have := R2.out; simp; omega, ?_, RC2.out, RV2.out, KEEP _ _ _ _ (blk11 N4.out A2.out) (by decide), KEEP _ _ _ _ (blk11 N4.out XX2.out) (by decide), BZ.out⟩
          exact (J2.out.mv fun g' C hg' => KEEP _ _ _ _ (blk11 N4.out hg') (by decide)).app (tkB_len _ _ _) (by have := B2.out.size; have := R6s.out; omega) LT9.out (KEEP _ _ _ _ (blk11 N4.out G2.out) (by decide))
        clear hz hgr KEEP f0 f1
        go_wp2_with fail
        exact ⟨⟨k + 1, _, _, by omega, by go_num, FIN.out⟩, by simp [intOf]; omega⟩
    · obtain rfl : k = N := by omega
      obtain ⟨r1, r2, r3, rC, rV, r4, r5, r6⟩ := HR.out
      have FR : Hid (∀ e, e = .returned (.tuple #[u11, .int .u32 0]) → UPost w RES ROWS e wr) := fun e he => by
        rw [List.drop_of_length_le (by omega)] at rC rV
        exact ⟨.inr ⟨rC, u11, us, he, r1, by rw [rV]; simp only [unV, List.append_nil]; exact r3⟩, r6⟩
      clear r1 r2 r3 rC rV r4 r5 r6 HR
      go_wp2_with fail
      go_ret2
      exact FR.out _ rfl
#print axioms may_code
#print axioms unpack_O
end Go.Proofs.YtajllkkbgpijiaaGreatDoor
namespace Go.Proofs.YtajllkkbgpijiaaGreatDoor
open Go.RowKit

set_option linter.unusedSimpArgs false in
set_option maxHeartbeats 4000000 in
set_option maxRecDepth 100000 in
theorem unpack_shortO (pv : Value) (ad : Option Addr) (gm off N cap : Nat) (ms : List Mq) (a : Option Addr) (len capb : Nat) (w : World) (hN : ms.length = N) (had : 0 < N → ad = some ⟨gm, off, none⟩) (h64 : N ≤ 64) (hM : MsO w gm off ms) (hC : ∀ W, Below w.heap.size w W → Calls Tryz.prog 18 #[pv, .slice ad N cap, .bool false] W fun e w' => e = .returned (.int .u32 0) ∧ Below W.heap.size W w') (hs : sumB ms N ≤ 64) (hlen : len < (sumB ms N + 7) / 8) :
    Calls Tryz.prog 7 #[pv, .slice ad N cap, .slice a len capb] w fun e w' => e = .returned (.tuple #[.slice none 0 0, .int .u32 101122064]) ∧ Below w.heap.size w w' := by
  obtain ⟨R, hR⟩ : ∃ R, Hid (R = (sumB ms N + 7) / 8) := ⟨_, rfl⟩
  have HC : Hid (∀ W, Below w.heap.size w W → Calls Tryz.prog 18 #[pv, .slice ad N cap, .bool false] W fun e w' => e = .returned (.int .u32 0) ∧ Below W.heap.size W w') := hC
  have HS : Hid (∀ W, Below w.heap.size w W → Calls Tryz.prog 19 #[.slice ad N cap] W fun e w' => e = .returned (.int .i64 (R : Int)) ∧ Below W.heap.size W w') := fun W hb => by rw [hR.out]; exact size_O ad gm off N cap had ms W hN h64 (hM.next hb) hs
  have hRl : len < R := by have := hR.out; omega
  clear hM had hC
  go_enter Tryz.func7, Tryz.ntmps7
  go_wp2_with fail
  refine (HC.out _ (by repeat (first | exact Below.refl _ _ | apply Below.drew | apply Below.al))).mono ?_
  rintro e w1 ⟨rfl, hb1⟩
  have B1 : Hid (Below w.heap.size w w1) := Below.andThen (by repeat (first | exact Below.refl _ _ | apply Below.drew | apply Below.al)) hb1
  have HB1 : Hid (w1.heap[w.heap.size]? = some (.cells #[.slice a len capb] 24 (0, 0))) := blk11 hb1 (at11 _ _ _ rfl)
  clear hb1
  go_wp2_with fail
  refine wp_region_held_drew (S := fun z => Below w1.heap.size w1 z) (by kernel_rfl) (Below.drew (Below.refl _ _)) (fun hHeld => ?_)
  refine tk 0 (.slice a len capb) rfl (.inl ⟨by rfl, ?_⟩) ?_
  · intro w9 hSw
    try dsimp only at hSw
    have c9 : w9.cell? ⟨w.heap.size, 0, none⟩ = some (.slice a len capb) := by rw [cell_of_row _ _ 0 _ _ _ (blk11 hSw HB1.out)]; rfl
    go_simp
    all_goals try assumption
  try simp only [Act.put, gA, gS, gZ, sA, sZ, sS]
  refine tk 1 (.int .i64 (len : Int)) rfl (.inl ⟨by rfl, ?_⟩) ?_
  · intro w9 hSw
    try dsimp only at hSw
    go_simp
    all_goals try decide
    all_goals try assumption
    all_goals try omega
  try simp only [Act.put, gA, gS, gZ, sA, sZ, sS]
  refine tk 2 (.slice ad N cap) rfl (.inl ⟨by rfl, ?_⟩) ?_
  · intro w9 hSw
    try dsimp only at hSw
    go_simp
    all_goals try decide
    all_goals try assumption
    all_goals try omega
  try simp only [Act.put, gA, gS, gZ, sA, sZ, sS]
  refine wpAnyH_ready (rs := [3]) (by kernel_rfl) (by simp) ?_
  refine AllReadyH.cons rfl (fun K' hK => ?_) AllReadyH.nil
  rw [if_pos (by rfl)]
  simp only [gA, gS, gZ]
  go_wp2_with fail
  refine (HS.out _ (Below.andThen B1.out (Below.drew (Below.refl _ _)))).mono ?_
  rintro e z3 ⟨rfl, hb3⟩
  have N3 : Hid (Below w1.heap.size w1 z3) := Below.andThen (Below.drew (Below.refl _ _)) hb3
  clear hb3
  try go_wp2_with fail
  refine hK.out _ _ (N3.out) (fun hHeld => ?_)
  clear hK K'
  try simp only [Act.put, gA, gS, gZ, sA, sZ, sS]
  refine tk 4 (.bool true) rfl (.inl ⟨by rfl, ?_⟩) ?_
  · intro w9 hSw
    try dsimp only at hSw
    have q1 : (len : Int) < (R : Int) := by omega
    go_simp
    all_goals try omega
  try simp only [Act.put, gA, gS, gZ, sA, sZ, sS]
  refine wpAnyH_done (by kernel_rfl) ?_ _
  have B3 : Hid (Below w.heap.size w z3) := Below.andThen B1.out hHeld
  clear hHeld N3
  go_wp2_with fail
  go_ret2
  exact ⟨rfl, B3.out⟩

theorem row_own {w : World} {g n : Nat} {zb : List Int} (hn : zb.length = n) (ho : Oct zb) (hh : w.heap[g]? = some (.cells (zb.map (Value.int .u8)).toArray 5 (0, 0))) : Row w (some ⟨g, 0, none⟩) n zb := ⟨hn, ho, fun _ => ⟨g, 0, rfl, fun i hi => by
  rw [cell_of_row _ _ (0 + i) _ _ _ hh, List.getElem?_toArray, List.getElem?_map, Nat.zero_add, List.getElem?_eq_getElem (by omega)]
  simp [List.getD_eq_getElem?_getD, List.getElem?_eq_getElem (show i < zb.length by omega)]⟩⟩
theorem gpB_q {x : Mz} (h : 0 ≤ x.b) : gpB x.q = gapB x.i x.s x.b := by
  unfold gpB
  show gapB x.i x.s (x.b.toNat : Int) = _
  rw [Int.toNat_of_nonneg h]
/-- What May says of the places of a dictionary. -/
def MayC (p : Nat) (lst : Mp) (w : World) (mc : Mq → List Int → Int) : Prop := ∀ x : Mz, cfD lst false x = 0 → gpB x.q = false → ∀ W, Below w.heap.size w W → ∀ zb g, zb.length = (x.q.b + 7) / 8 → Oct zb → W.heap[g]? = some (.cells (zb.map (Value.int .u8)).toArray 5 (0, 0)) → Calls Tryz.prog 25 #[.pointer (some ⟨p, 0, none⟩), plV x.i x.s, .slice (some ⟨g, 0, none⟩) ((x.q.b + 7) / 8) ((x.q.b + 7) / 8)] W fun e w' => ∃ tg, e = .returned (.tuple #[.int .u8 tg, .int .u32 (mc x.q zb)]) ∧ Below W.heap.size W w'
theorem MayC.next {p : Nat} {lst : Mp} {w w' : World} {mc : Mq → List Int → Int} (h : MayC p lst w mc) (hb : Below w.heap.size w w') : MayC p lst w' mc := fun x h1 h2 W hW => h x h1 h2 W (Below.andThen hb hW)
theorem may_all (p m : Nat) (cg : Int) (lst : Mp) (val : Int → Int → List Int) (w : World) (hp : w.heap[p]? = some (.cells #[.map (some m), .int .i64 cg] 91 (0, 0))) (hm : IsM w m lst) (ho : ItOk w lst val) (hT : Ty.Tab64 w) : ∃ mc, MayC p lst w mc := by
  have each : ∀ q : Mq, ∃ f : List Int → Int, ∀ x : Mz, x.q = q → cfD lst false x = 0 → gpB x.q = false → ∀ W, Below w.heap.size w W → ∀ zb g, zb.length = (x.q.b + 7) / 8 → Oct zb → W.heap[g]? = some (.cells (zb.map (Value.int .u8)).toArray 5 (0, 0)) → Calls Tryz.prog 25 #[.pointer (some ⟨p, 0, none⟩), plV x.i x.s, .slice (some ⟨g, 0, none⟩) ((x.q.b + 7) / 8) ((x.q.b + 7) / 8)] W fun e w' => ∃ tg, e = .returned (.tuple #[.int .u8 tg, .int .u32 (f zb)]) ∧ Below W.heap.size W w' := fun q => by
    cases hl : lookP lst q.i q.s with
    | none =>
      refine ⟨fun _ => 0, fun x hx hc hg => ?_⟩
      subst hx
      exfalso
      have hb := cfD_bd hc
      rw [gpB_q hb.1] at hg
      unfold cfD at hc
      have hl : lookP lst x.i x.s = none := hl
      rw [if_neg (by rw [hg]; decide), hl] at hc
      exact absurd hc (miss_ne _ _)
    | some u =>
      obtain ⟨nm, t, rt, d, ld, cd, l, ll, cl, h, lh, ch, tg, gr, v, lv, cv, zd, zl, zh, rfl, r1, r2, r3, r4, g1, g2, g3, g4, g5⟩ := ho _ _ _ hl
      refine ⟨fun zb => Ty.chkN t zb zl zh, fun x hx hc hg W hW zb g hn hO hh => ?_⟩
      subst hx
      have hb := cfD_bd hc
      rw [gpB_q hb.1] at hg
      have hr : (bits .and .u8 rt 2 != 0) = true := by
        unfold cfD at hc
        have hl : lookP lst x.i x.s = _ := hl
        rw [if_neg (by rw [hg]; decide), hl] at hc
        simp only at hc
        split at hc
        · rename_i hq
          simp only [Bool.and_eq_true] at hq
          have h2 : (!(bits .and .u8 rt 2 == 0)) = true := hq.2
          simpa using h2
        · exact absurd hc (by decide)
      have h64 : (x.q.b + 7) / 8 ≤ 8 := by show (x.b.toNat + 7) / 8 ≤ 8; omega
      exact may_code p m cg lst x.i x.s nm t rt d ld cd l ll cl h lh ch tg gr v lv cv (some ⟨g, 0, none⟩) _ _ zb zl zh W (blk11 hW hp) (hm.next hW) hl ⟨row_own hn hO hh, Nat.le_refl _, by unfold maxLen; omega⟩ (r2.next hW) (r3.next hW) (tab_next hT hW) hr _ rfl
  obtain ⟨f, hf⟩ := Classical.axiomOfChoice each
  exact ⟨f, fun x => hf x.q x rfl⟩
theorem chkC_zeroB {lst : Mp} {out : Bool} {ms : List Mz} (h : chkC lst out ms = 0) : ms.length ≤ 64 ∧ (∀ x ∈ ms, cfD lst out x = 0) ∧ (∀ x ∈ ms, 0 ≤ x.b) ∧ sumB (ms.map Mz.q) ms.length ≤ 64 := by
  have hl : ms.length ≤ 64 := by
    unfold chkC at h
    split at h
    · exact absurd h (by decide)
    · omega
  have hz : (∀ x ∈ ms, cfD lst out x = 0) ∧ 0 + (ms.map (·.b)).sum ≤ 64 := by
    unfold chkC at h
    rw [if_neg (by omega)] at h
    exact chkZ_zero _ ms 0 h (by decide)
  have hb : ∀ x ∈ ms, 0 ≤ x.b := fun x hx => (cfD_bd (hz.1 x hx)).1
  refine ⟨hl, hz.1, hb, ?_⟩
  unfold sumB
  rw [List.take_of_length_le (by simp)]
  have := sum_q ms hb
  omega
/-- Unpack's code, of a mapping that may be. -/
def unR (mc : Mq → List Int → Int) (zs : List Int) (qs : List Mq) : Int := if zs.length < (sumB qs qs.length + 7) / 8 then 101122064 else unC mc zs qs 0
theorem unpack_any (p m : Nat) (cg : Int) (lst : Mp) (val : Int → Int → List Int) (ad : Option Addr) (g off cap : Nat) (ms : List Mz) (had : 0 < ms.length → ad = some ⟨g, off, none⟩) (w : World) (hp : w.heap[p]? = some (.cells #[.map (some m), .int .i64 cg] 91 (0, 0))) (hm : IsM w m lst) (ho : ItOk w lst val) (hM : MzAt w g off ms) (hi : ∀ x ∈ ms, 0 ≤ x.i ∧ x.i < 65536) (hc : chkC lst false ms = 0) (a : Option Addr) (len capb : Nat) (zs : List Int) (hr : Row w a len zs) (hlen : len ≤ 1000) (mc : Mq → List Int → Int) (hmc : MayC p lst w mc) :
    Calls Tryz.prog 7 #[.pointer (some ⟨p, 0, none⟩), .slice ad ms.length cap, .slice a len capb] w fun e w' => UPost w (unR mc zs (ms.map Mz.q)) (unV zs (ms.map Mz.q) 0) e w' := by
  obtain ⟨h64, hz, hb, hs⟩ := chkC_zeroB hc
  have HC : ∀ W, Below w.heap.size w W → Calls Tryz.prog 18 #[.pointer (some ⟨p, 0, none⟩), .slice ad ms.length cap, .bool false] W fun e w' => e = .returned (.int .u32 0) ∧ Below W.heap.size W w' := fun W hW => by
    have := check_any false p m cg lst val ad g off cap ms had W (blk11 hW hp) (hm.next hW) (ho.next hW) (hM.next hW) hi
    rw [hc] at this
    exact this
  have hl := hr.size
  unfold unR
  rw [List.length_map, hl]
  by_cases hlt : len < (sumB (ms.map Mz.q) ms.length + 7) / 8
  · rw [if_pos hlt]
    exact (unpack_shortO (.pointer (some ⟨p, 0, none⟩)) ad g off ms.length cap (ms.map Mz.q) a len capb w (by simp) had h64 (hM.o hb) HC hs hlt).mono fun e w' ⟨h1, h2⟩ => ⟨.inl ⟨by decide, h1⟩, h2⟩
  · rw [if_neg hlt]
    refine unpack_O (.pointer (some ⟨p, 0, none⟩)) ad g off ms.length cap (ms.map Mz.q) mc a len capb zs w (by simp) had h64 (hM.o hb) (fun y hy => ?_) HC hs hr (by omega) hlen (fun W hW y hy hg zb g' hn hO hh => ?_)
    · obtain ⟨x, hx, rfl⟩ := List.mem_map.1 hy
      exact hi x hx
    · obtain ⟨x, hx, rfl⟩ := List.mem_map.1 hy
      exact hmc x (hz x hx) hg W hW zb g' hn hO hh
theorem bitA_drop (zs : List Int) (n k : Nat) : bitA zs (8 * n + k) = bitA (zs.drop n) k := by
  unfold bitA
  rw [show (8 * n + k) / 8 = n + k / 8 by omega, show (8 * n + k) % 8 = k % 8 by omega, List.getD_eq_getElem?_getD, List.getD_eq_getElem?_getD, List.getElem?_drop]
theorem layL_drop (zs : List Int) (n off fr : Nat) {cnt : Nat} (ys : List Int) (pre : List (BX cnt)) : layL zs (8 * n + off) fr ys pre = layL (zs.drop n) off fr ys pre := by
  unfold layL
  induction pre generalizing ys with
  | nil => rfl
  | cons x l ih => simp only [List.foldl_cons]; rw [Nat.add_assoc (8 * n), bitA_drop]; exact ih _
theorem tkB_drop (zs : List Int) (n nx b : Nat) : tkB zs (8 * n + nx) b = tkB (zs.drop n) nx b := layL_drop zs n nx 0 _ _
theorem unC_drop (mc : Mq → List Int → Int) (zs : List Int) (n : Nat) : ∀ (l : List Mq) (k : Nat), unC mc zs l (8 * n + k) = unC mc (zs.drop n) l k
  | [], _ => rfl
  | x :: l, k => by simp only [unC]; rw [tkB_drop, Nat.add_assoc, unC_drop mc zs n l (k + x.b)]
theorem unV_drop (zs : List Int) (n : Nat) : ∀ (l : List Mq) (k : Nat), unV zs l (8 * n + k) = unV (zs.drop n) l k
  | [], _ => rfl
  | x :: l, k => by simp only [unV]; rw [tkB_drop, Nat.add_assoc, unV_drop zs n l (k + x.b)]
theorem chkZ_mono (cf : Mz → Int) : ∀ (ms : List Mz) (n k : Int), chkZ cf ms n = 0 → k ≤ n → chkZ cf ms k = 0
  | [], _, _, _, _ => rfl
  | x :: l, n, k, h, hk => by
    simp only [chkZ] at h ⊢
    split at h
    · rename_i h1; exact absurd h h1
    · rename_i h1
      split at h
      · exact absurd h (by decide)
      · rename_i h2
        rw [if_neg h1, if_neg (by omega)]
        exact chkZ_mono cf l _ _ h (by omega)
/-- A gap ahead of a mapping. -/
def gapZ (n : Nat) (t : Int) : Mz := ⟨t, 0, ((8 * n : Nat) : Int)⟩
theorem sumB_cons (x : Mq) (l : List Mq) (k : Nat) : sumB (x :: l) (k + 1) = x.b + sumB l k := by unfold sumB; simp
theorem gap_ahead (lst : Mp) (mc : Mq → List Int → Int) (zs : List Int) (n : Nat) (t : Int) (ms : List Mz) (hg : gapB t 0 ((8 * n : Nat) : Int) = true) (hl : n ≤ zs.length) (hc : chkC lst false (gapZ n t :: ms) = 0) : chkC lst false ms = 0 ∧ unR mc zs ((gapZ n t :: ms).map Mz.q) = unR mc (zs.drop n) (ms.map Mz.q) ∧ unV zs ((gapZ n t :: ms).map Mz.q) 0 = unV (zs.drop n) (ms.map Mz.q) 0 := by
  have gq : gpB (gapZ n t).q = true := by rw [gpB_q (by show (0 : Int) ≤ ((8 * n : Nat) : Int); omega)]; exact hg
  have bq : (gapZ n t).q.b = 8 * n := rfl
  refine ⟨?_, ?_, ?_⟩
  · unfold chkC at hc ⊢
    split at hc
    · exact absurd hc (by decide)
    · rename_i h1
      rw [if_neg (by simp at h1; omega)]
      have h2 := (show chkZ (cfD lst false) (gapZ n t :: ms) 0 = 0 from hc)
      simp only [chkZ] at h2
      split at h2
      · rename_i h3; exact absurd h2 h3
      · split at h2
        · exact absurd h2 (by decide)
        · exact chkZ_mono _ ms _ 0 h2 (by show (0 : Int) ≤ 0 + ((8 * n : Nat) : Int); omega)
  · unfold unR
    rw [List.map_cons, List.length_cons, sumB_cons, bq, List.length_drop]
    have e1 : unC mc zs ((gapZ n t).q :: ms.map Mz.q) 0 = unC mc (zs.drop n) (ms.map Mz.q) 0 := by
      simp only [unC]
      rw [if_pos gq, show (0 + (gapZ n t).b.toNat) = 8 * n + 0 by show 0 + ((8 * n : Nat) : Int).toNat = _; omega, unC_drop]
    rw [e1]
    by_cases h : zs.length < (8 * n + sumB (ms.map Mz.q) (ms.map Mz.q).length + 7) / 8
    · rw [if_pos h, if_pos (by omega)]
    · rw [if_neg h, if_neg (by omega)]
  · rw [List.map_cons]
    simp only [unV]
    rw [if_pos gq, show (0 + (gapZ n t).b.toNat) = 8 * n + 0 by show 0 + ((8 * n : Nat) : Int).toNat = _; omega, unV_drop]
#print axioms unpack_any
#print axioms gap_ahead
end Go.Proofs.YtajllkkbgpijiaaGreatDoor
namespace Go.Proofs.YtajllkkbgpijiaaGreatDoor
open Go.RowKit

/-- What an item of a dictionary is. -/
structure It where
  t : Int
  rt : Int
  tg : Int
  zl : List Int
  zh : List Int
  zv : List Int
/-- The items of a dictionary, place by place. -/
def ItD (W : World) (lst : Mp) (I : Int → Int → Option It) : Prop := ∀ i s : Int, (lookP lst i s = none ∧ I i s = none) ∨ ∃ x : It, I i s = some x ∧ ∃ nm d ld cd l ll cl h lh ch gr v lv cv zd, lookP lst i s = some (.agg (itC i s nm x.t x.rt d ld cd l ll cl h lh ch x.tg gr v lv cv)) ∧ SlOk W d ld cd zd ∧ SlOk W l ll cl x.zl ∧ SlOk W h lh ch x.zh ∧ SlOk W v lv cv x.zv ∧ ld ≤ 16777216 ∧ ll ≤ 16777216 ∧ lh ≤ 16777216 ∧ lv ≤ 16777216 ∧ (0 < Ty.Pl.sizeN x.t → (lv : Int) = Ty.Pl.sizeN x.t)
theorem ItD.next {W W' : World} {lst : Mp} {I : Int → Int → Option It} (h : ItD W lst I) (hb : Below W.heap.size W W') : ItD W' lst I := fun i s => by
  rcases h i s with h | ⟨x, hx, nm, d, ld, cd, l, ll, cl, h, lh, ch, gr, v, lv, cv, zd, e, r1, r2, r3, r4, r5⟩
  · exact .inl h
  · exact .inr ⟨x, hx, nm, d, ld, cd, l, ll, cl, h, lh, ch, gr, v, lv, cv, zd, e, r1.next hb, r2.next hb, r3.next hb, r4.next hb, r5⟩
/-- The values of a dictionary. -/
def valI (I : Int → Int → Option It) (i s : Int) : List Int := match I i s with
  | none => []
  | some x => x.zv
theorem ItD.ok {W : World} {lst : Mp} {I : Int → Int → Option It} (h : ItD W lst I) : ItOk W lst (valI I) := fun i s u hu => by
  rcases h i s with ⟨h, _⟩ | ⟨x, hx, nm, d, ld, cd, l, ll, cl, h, lh, ch, gr, v, lv, cv, zd, e, r1, r2, r3, r4, g1, g2, g3, g4, g5⟩
  · rw [h] at hu; cases hu
  · rw [e] at hu
    cases hu
    exact ⟨nm, x.t, x.rt, d, ld, cd, l, ll, cl, h, lh, ch, x.tg, gr, v, lv, cv, zd, x.zl, x.zh, rfl, r1, r2, r3, by unfold valI; rw [hx]; exact r4, g1, g2, g3, g4, g5⟩
/-- May's code of a place and bytes. -/
def mayK (lst : Mp) (I : Int → Int → Option It) (i s : Int) (zb : List Int) : Int := match I i s with
  | none => missC lst i
  | some x => if (bits .and .u8 x.rt 2 != 0) = true then Ty.chkN x.t zb x.zl x.zh else 100728834

set_option linter.unusedSimpArgs false in
set_option maxHeartbeats 4000000 in
set_option maxRecDepth 100000 in
theorem may_miss (p m : Nat) (cg : Int) (lst : Mp) (i s : Int) (b : Option Addr) (lb cb : Nat) (w : World) (hp : w.heap[p]? = some (.cells #[.map (some m), .int .i64 cg] 91 (0, 0))) (hm : IsM w m lst) (hl : lookP lst i s = none) (mc : Int) (hmc : mc = missC lst i) :
    Calls Tryz.prog 25 #[.pointer (some ⟨p, 0, none⟩), plV i s, .slice b lb cb] w fun e w' => ∃ g, e = .returned (.tuple #[.int .u8 g, .int .u32 mc]) ∧ Below w.heap.size w w' := by
  have HF : Hid (∀ W, Below w.heap.size w W → Calls Tryz.prog 41 #[.pointer (some ⟨p, 0, none⟩), plV i s] W fun e w' => e = .returned (.tuple #[.agg (itC 0 0 ⟨#[]⟩ 0 0 none 0 0 none 0 0 none 0 0 0 0 none 0 0), .int .u32 mc]) ∧ Below W.heap.size W w') := fun W hb => by rw [hmc]; exact find_miss p m cg lst i s W (blk11 hb hp) (hm.next hb) hl
  have mz : mc ≠ 0 := by rw [hmc]; exact miss_ne lst i
  clear hp hm hl hmc
  go_enter Tryz.func25, Tryz.ntmps25
  go_wp2_with fail
  refine (HF.out _ (by repeat (first | exact Below.refl _ _ | apply Below.drew | apply Below.al))).mono ?_
  rintro e w1 ⟨rfl, hb⟩
  have B1 : Hid (Below w.heap.size w w1) := Below.andThen (by repeat (first | exact Below.refl _ _ | apply Below.drew | apply Below.al)) hb
  clear hb
  go_wp2_with fail
  go_ret2
  exact ⟨_, rfl, Below.al B1.out _⟩
set_option linter.unusedSimpArgs false in
set_option maxHeartbeats 4000000 in
set_option maxRecDepth 100000 in
theorem may_ro (p m : Nat) (cg : Int) (lst : Mp) (i s : Int) (nm : ByteArray) (t rt : Int) (d : Option Addr) (ld cd : Nat) (l : Option Addr) (ll cl : Nat) (h : Option Addr) (lh ch : Nat) (tg gr : Int) (v : Option Addr) (lv cv : Nat) (b : Option Addr) (lb cb : Nat) (w : World) (hp : w.heap[p]? = some (.cells #[.map (some m), .int .i64 cg] 91 (0, 0))) (hm : IsM w m lst) (hl : lookP lst i s = some (.agg (itC i s nm t rt d ld cd l ll cl h lh ch tg gr v lv cv)))
    (hr : (bits .and .u8 rt 2 != 0) = false) :
    Calls Tryz.prog 25 #[.pointer (some ⟨p, 0, none⟩), plV i s, .slice b lb cb] w fun e w' => ∃ g, e = .returned (.tuple #[.int .u8 g, .int .u32 100728834]) ∧ Below w.heap.size w w' := by
  have HF : Hid (∀ W, Below w.heap.size w W → Calls Tryz.prog 41 #[.pointer (some ⟨p, 0, none⟩), plV i s] W fun e w' => e = .returned (.tuple #[.agg (itC i s nm t rt d ld cd l ll cl h lh ch tg gr v lv cv), .int .u32 0]) ∧ Below W.heap.size W w') := fun W hb => find_at p m cg lst i s nm t rt d ld cd l ll cl h lh ch tg gr v lv cv W (blk11 hb hp) (hm.next hb) hl
  have HH : Hid (∀ W, Calls Tryz.prog 48 #[.agg (itC i s nm t rt d ld cd l ll cl h lh ch tg gr v lv cv), .int .u8 2] W fun e w' => e = .returned (.bool false) ∧ Below W.heap.size W w') := fun W => by
    have := has_any i s nm t rt d ld cd l ll cl h lh ch tg gr v lv cv 2 W
    rw [hr] at this
    exact this
  clear hp hm hl hr
  go_enter Tryz.func25, Tryz.ntmps25
  go_wp2_with fail
  refine (HF.out _ (by repeat (first | exact Below.refl _ _ | apply Below.drew | apply Below.al))).mono ?_
  rintro e w1 ⟨rfl, hb⟩
  have B1 : Hid (Below w.heap.size w w1) := Below.andThen (by repeat (first | exact Below.refl _ _ | apply Below.drew | apply Below.al)) hb
  clear hb
  go_wp2_with fail
  refine (HH.out _).mono ?_
  rintro e w2 ⟨rfl, hb⟩
  have B2 : Hid (Below w.heap.size w w2) := Below.andThen (Below.al B1.out _) hb
  clear hb
  go_wp2_with fail
  go_ret2
  exact ⟨_, rfl, B2.out⟩
/-- May of any place. -/
theorem may_dic (p m : Nat) (cg : Int) (lst : Mp) (I : Int → Int → Option It) (i s : Int) (b : Option Addr) (lb cb : Nat) (zb : List Int) (w : World) (hp : w.heap[p]? = some (.cells #[.map (some m), .int .i64 cg] 91 (0, 0))) (hm : IsM w m lst) (hI : ItD w lst I) (rb : SlOk w b lb cb zb) (hT : Ty.Tab64 w) :
    Calls Tryz.prog 25 #[.pointer (some ⟨p, 0, none⟩), plV i s, .slice b lb cb] w fun e w' => ∃ g, e = .returned (.tuple #[.int .u8 g, .int .u32 (mayK lst I i s zb)]) ∧ Below w.heap.size w w' := by
  rcases hI i s with ⟨h1, h2⟩ | ⟨x, hx, nm, d, ld, cd, l, ll, cl, h, lh, ch, gr, v, lv, cv, zd, e, r1, r2, r3, r4, g1, g2, g3, g4, g5⟩
  · rw [show mayK lst I i s zb = missC lst i by unfold mayK; rw [h2]]
    exact may_miss p m cg lst i s b lb cb w hp hm h1 _ rfl
  · cases hr : (bits .and .u8 x.rt 2 != 0) with
    | false =>
      rw [show mayK lst I i s zb = 100728834 by unfold mayK; rw [hx]; simp only; rw [hr]; rfl]
      exact may_ro p m cg lst i s nm x.t x.rt d ld cd l ll cl h lh ch x.tg gr v lv cv b lb cb w hp hm e hr
    | true =>
      rw [show mayK lst I i s zb = Ty.chkN x.t zb x.zl x.zh by unfold mayK; rw [hx]; simp only; rw [hr]; rfl]
      exact may_code p m cg lst i s nm x.t x.rt d ld cd l ll cl h lh ch x.tg gr v lv cv b lb cb zb x.zl x.zh w hp hm e rb r2 r3 hT hr _ rfl
set_option linter.unusedSimpArgs false in
set_option maxHeartbeats 4000000 in
set_option maxRecDepth 100000 in
theorem write_no (pv : Value) (i s : Int) (b : Option Addr) (lb cb : Nat) (mc : Int) (hmc : mc ≠ 0) (w : World) (HM : ∀ W, Below w.heap.size w W → Calls Tryz.prog 25 #[pv, plV i s, .slice b lb cb] W fun e w' => ∃ g, e = .returned (.tuple #[.int .u8 g, .int .u32 mc]) ∧ Below W.heap.size W w') :
    Calls Tryz.prog 31 #[pv, plV i s, .slice b lb cb] w fun e w' => e = .returned (.int .u32 mc) ∧ Below w.heap.size w w' := by
  have HMM : Hid (∀ W, Below w.heap.size w W → Calls Tryz.prog 25 #[pv, plV i s, .slice b lb cb] W fun e w' => ∃ g, e = .returned (.tuple #[.int .u8 g, .int .u32 mc]) ∧ Below W.heap.size W w') := HM
  clear HM
  go_enter Tryz.func31, Tryz.ntmps31
  go_wp2_with fail
  refine (HMM.out _ (by repeat (first | exact Below.refl _ _ | apply Below.drew | apply Below.al))).mono ?_
  rintro e w1 ⟨g, rfl, hb⟩
  have B1 : Hid (Below w.heap.size w w1) := Below.andThen (by repeat (first | exact Below.refl _ _ | apply Below.drew | apply Below.al)) hb
  clear hb
  go_wp2_with fail
  go_ret
  exact ⟨rfl, B1.out⟩
#print axioms may_dic
#print axioms write_no
end Go.Proofs.YtajllkkbgpijiaaGreatDoor
namespace Go.Proofs.YtajllkkbgpijiaaGreatDoor
open Go.RowKit

theorem lookP_put : ∀ (lst : Mp) (i s : Int) (v : Value) (j r : Int), lookP (putP lst i s v) j r = if (j == i && r == s) = true then some v else lookP lst j r
  | [], i, s, v, j, r => by simp only [putP, lookP]
  | x :: l, i, s, v, j, r => by
    simp only [putP]
    split
    · rename_i h
      obtain ⟨h1, h2⟩ : i = x.1 ∧ s = x.2.1 := by simpa using h
      simp only [lookP]
      rw [h1, h2]
      by_cases hc : (j == x.1 && r == x.2.1) = true
      · rw [if_pos hc, if_pos hc]
      · rw [if_neg hc, if_neg hc, if_neg hc]
    · rename_i h
      simp only [lookP]
      rw [lookP_put l i s v j r]
      by_cases hc : (j == x.1 && r == x.2.1) = true
      · have hn : ¬ (j == i && r == s) = true := fun h2 => by
          obtain ⟨a1, a2⟩ : j = x.1 ∧ r = x.2.1 := by simpa using hc
          obtain ⟨b1, b2⟩ : j = i ∧ r = s := by simpa using h2
          exact h (by rw [← b1, ← b2]; exact hc)
        rw [if_pos hc, if_neg hn, if_pos hc]
      · rw [if_neg hc, if_neg hc]
theorem SlOk.kpD {w w' : World} {a : Option Addr} {len cap : Nat} {zs : List Int} (h : SlOk w a len cap zs) {p m : Nat} {cg : Int} {lst : Mp} (hp : w.heap[p]? = some (.cells #[.map (some m), .int .i64 cg] 91 (0, 0))) (hm : IsM w m lst) (hk : Kp [p, m] w w') : SlOk w' a len cap zs := ⟨⟨h.row.size, h.row.oct, fun hpos => by
  obtain ⟨b, off, e, hc⟩ := h.row.at_ hpos
  refine ⟨b, off, e, fun i hi => ?_⟩
  have c := hc i hi
  have hne : b ∉ [p, m] := fun hmem => by
    simp at hmem
    rcases hmem with rfl | rfl
    · rw [cell_of_row _ _ _ _ _ _ hp] at c
      rcases (by omega : off + i = 0 ∨ off + i = 1 ∨ 2 ≤ off + i) with q | q | q
      · rw [q] at c; simp at c
      · rw [q] at c; simp at c
      · rw [Array.getElem?_eq_none (by simpa using q)] at c
        cases c
    · obtain ⟨es, ck, hmm, _⟩ := hm
      simp [World.cell?, hmm] at c
  rw [World.cell?_of_block (w := w) (hk.block b (block_lt_of_cell c) hne)]
  exact c⟩, h.le, h.max⟩
/-- Items with another value at a place. -/
def putI (I : Int → Int → Option It) (i s : Int) (zb : List Int) : Int → Int → Option It := fun j r => if (j == i && r == s) = true then (I i s).map (fun x => { x with zv := zb }) else I j r
/-- Write of any place. -/
theorem write_dic (p m : Nat) (cg : Int) (lst : Mp) (I : Int → Int → Option It) (i s : Int) (b : Option Addr) (lb cb : Nat) (zb : List Int) (w : World) (hp : w.heap[p]? = some (.cells #[.map (some m), .int .i64 cg] 91 (0, 0))) (hm : IsM w m lst) (hI : ItD w lst I) (rb : SlOk w b lb cb zb) (hT : Ty.Tab64 w) (hlb : lb ≤ 16777216) (hc0 : 0 ≤ cg) (hc1 : cg < 4611686018427387904) (hne : p ≠ m) :
    Calls Tryz.prog 31 #[.pointer (some ⟨p, 0, none⟩), plV i s, .slice b lb cb] w fun e w' => e = .returned (.int .u32 (mayK lst I i s zb)) ∧ ((mayK lst I i s zb ≠ 0 ∧ Below w.heap.size w w') ∨ (mayK lst I i s zb = 0 ∧ ∃ lst', w'.heap[p]? = some (.cells #[.map (some m), .int .i64 (cg + 1)] 91 (0, 0)) ∧ IsM w' m lst' ∧ ItD w' lst' (putI I i s zb) ∧ Kp [p, m] w w')) := by
  by_cases hz : mayK lst I i s zb = 0
  · rcases hI i s with ⟨h1, h2⟩ | ⟨x, hx, nm, d, ld, cd, l, ll, cl, h, lh, ch, gr, v, lv, cv, zd, e, r1, r2, r3, r4, g1, g2, g3, g4, g5⟩
    · exact absurd (show missC lst i = 0 by rw [← hz]; unfold mayK; rw [h2]) (miss_ne _ _)
    · cases hr : (bits .and .u8 x.rt 2 != 0) with
      | false => exact absurd (show (100728834 : Int) = 0 by rw [← hz]; unfold mayK; rw [hx]; simp only; rw [hr]; rfl) (by decide)
      | true =>
        have hc : Ty.chkN x.t zb x.zl x.zh = 0 := by rw [← hz]; unfold mayK; rw [hx]; simp only; rw [hr]; rfl
        refine (write_at p m cg lst i s nm x.t x.rt d ld cd l ll cl h lh ch x.tg gr v lv cv b lb cb zb x.zl x.zh w hp hm e rb r2 r3 hT hr hc hlb hc0 hc1 hne).mono ?_
        rintro e' w' ⟨he, a', c', k1, k2, k3, k4⟩
        refine ⟨by rw [hz]; exact he, .inr ⟨hz, _, k2, k3, fun j r => ?_, k1⟩⟩
        rw [lookP_put]
        unfold putI
        by_cases hj : (j == i && r == s) = true
        · obtain ⟨q1, q2⟩ : j = i ∧ r = s := by simpa using hj
          rw [if_pos hj, if_pos hj, hx, q1, q2]
          exact .inr ⟨{ x with zv := zb }, rfl, nm, d, ld, cd, l, ll, cl, h, lh, ch, gr, a', lb, c', zd, rfl, r1.kpD hp hm k1, r2.kpD hp hm k1, r3.kpD hp hm k1, k4.sl, g1, g2, g3, hlb, fun hs => by rw [← chkN_size hc hs, rb.row.size]⟩
        · rw [if_neg hj, if_neg hj]
          rcases hI j r with h | ⟨x, hx, nm, d, ld, cd, l, ll, cl, h, lh, ch, gr, v, lv, cv, zd, e, r1, r2, r3, r4, g⟩
          · exact .inl h
          · exact .inr ⟨x, hx, nm, d, ld, cd, l, ll, cl, h, lh, ch, gr, v, lv, cv, zd, e, r1.kpD hp hm k1, r2.kpD hp hm k1, r3.kpD hp hm k1, r4.kpD hp hm k1, g⟩
  · exact (write_no _ i s b lb cb _ hz w fun W hb => may_dic p m cg lst I i s b lb cb zb W (blk11 hb hp) (hm.next hb) (hI.next hb) (rb.next hb) (tab_next hT hb)).mono fun e w' ⟨h1, h2⟩ => ⟨h1, .inl ⟨hz, h2⟩⟩
/-- Of a Map that is no gap, whether it may be: by the items. -/
def cfI (I : Int → Int → Option It) (out : Bool) (x : Mz) : Bool := gapB x.i x.s x.b && !out || !gapB x.i x.s x.b && match I x.i x.s with
  | none => false
  | some y => ((bits .and .u8 y.rt 4 != 0) && hasB y.t x.b) && !(bits .and .u8 y.rt (rgt out) == 0)
theorem cfD_cfI {W : World} {lst : Mp} {I : Int → Int → Option It} (h : ItD W lst I) (out : Bool) (x : Mz) : cfD lst out x = 0 ↔ cfI I out x = true := by
  unfold cfD cfI
  cases hg : gapB x.i x.s x.b with
  | true => cases out <;> simp
  | false =>
    rcases h x.i x.s with ⟨h1, h2⟩ | ⟨y, hy, nm, d, ld, cd, l, ll, cl, h, lh, ch, gr, v, lv, cv, zd, e, r⟩
    · rw [h1, h2]
      simp [miss_ne]
    · rw [e, hy]
      simp only [itR, itT, itC]
      simp [and_assoc]
theorem cfI_put (I : Int → Int → Option It) (i s : Int) (zb : List Int) (out : Bool) (x : Mz) : cfI (putI I i s zb) out x = cfI I out x := by
  unfold cfI putI
  by_cases hj : (x.i == i && x.s == s) = true
  · obtain ⟨q1, q2⟩ : x.i = i ∧ x.s = s := by simpa using hj
    rw [if_pos hj, q1, q2]
    cases I i s <;> rfl
  · rw [if_neg hj]
#print axioms write_dic
#print axioms cfD_cfI
#print axioms cfI_put
end Go.Proofs.YtajllkkbgpijiaaGreatDoor
namespace Go.Proofs.YtajllkkbgpijiaaGreatDoor
open Go.RowKit

/-- The items of a dictionary that was made of entries. -/
def itE : List Em → Int → Int → Option It
  | [], _, _ => none
  | e :: r, i, s => if (i == e.i && s == e.s) = true then some ⟨e.t, e.rt, e.tg, e.zl, e.zh, firstL e.t e.zd⟩ else itE r i s
theorem itE_rel (Q : Em → Value → Prop) : ∀ (es : List Em) (lst : Mp) (i s : Int), lst.length = es.length → (∀ (k : Nat) (e : Em), es[k]? = some e → ∃ v, lst[k]? = some (e.i, e.s, v) ∧ Q e v) → (lookP lst i s = none ∧ itE es i s = none) ∨ ∃ e ∈ es, e.i = i ∧ e.s = s ∧ itE es i s = some ⟨e.t, e.rt, e.tg, e.zl, e.zh, firstL e.t e.zd⟩ ∧ ∃ u, lookP lst i s = some u ∧ Q e u
  | [], lst, i, s, hl, _ => by
    have : lst = [] := List.eq_nil_of_length_eq_zero hl
    subst this
    exact .inl ⟨rfl, rfl⟩
  | e :: es, [], i, s, hl, _ => by simp at hl
  | e :: es, x :: lst, i, s, hl, hr => by
    obtain ⟨v, hx, hq⟩ := hr 0 e rfl
    simp at hx
    subst hx
    by_cases hc : (i == e.i && s == e.s) = true
    · obtain ⟨h1, h2⟩ : i = e.i ∧ s = e.s := by simpa using hc
      refine .inr ⟨e, List.mem_cons_self, h1.symm, h2.symm, by simp only [itE]; rw [if_pos hc], v, by simp only [lookP]; rw [if_pos hc], hq⟩
    · rcases itE_rel Q es lst i s (by simpa using hl) (fun k e' he' => hr (k + 1) e' he') with ⟨h1, h2⟩ | ⟨e', he, h1, h2, h3, u, h4, h5⟩
      · exact .inl ⟨by simp only [lookP]; rw [if_neg hc]; exact h1, by simp only [itE]; rw [if_neg hc]; exact h2⟩
      · exact .inr ⟨e', List.mem_cons_of_mem _ he, h1, h2, by simp only [itE]; rw [if_neg hc]; exact h3, u, by simp only [lookP]; rw [if_neg hc]; exact h4, h5⟩
/-- What New made, place by place. -/
theorem built_dic {w W : World} {lo : Nat} {es : List Em} {lst : Mp} (h : Built W lo es lst) (hc : newC es = 0) (hin : ∀ e ∈ es, EmIn w e) : ItD W lst (itE es) := fun i s => by
  rcases itE_rel (fun e u => ∃ a1 c1 a2 c2 a3 c3 v lv cv, u = .agg (itC e.i e.s e.nm e.t e.rt a1 e.ld c1 a2 e.ll c2 a3 e.lh c3 e.tg e.gr v lv cv) ∧ Kept W lo a1 e.ld c1 e.zd ∧ Kept W lo a2 e.ll c2 e.zl ∧ Kept W lo a3 e.lh c3 e.zh ∧ Kept W lo v lv cv (firstL e.t e.zd)) es lst i s h.1 (fun k e he => by
      obtain ⟨a1, c1, a2, c2, a3, c3, v, lv, cv, g, k1, k2, k3, k4⟩ := h.2 k e he
      exact ⟨_, g, a1, c1, a2, c2, a3, c3, v, lv, cv, rfl, k1, k2, k3, k4⟩) with h0 | ⟨e, he, rfl, rfl, h3, u, h4, a1, c1, a2, c2, a3, c3, v, lv, cv, rfl, k1, k2, k3, k4⟩
  · exact .inl h0
  · obtain ⟨rd, rl, rh, b1, b2, b3⟩ := hin e he
    have hm := (mayB_yes ((newC_zero hc).2 e he)).2.2.2.2.2.2
    have hz : e.zd.length ≤ 16777216 := by rw [rd.row.size]; exact b1
    refine .inr ⟨_, h3, e.nm, a1, e.ld, c1, a2, e.ll, c2, a3, e.lh, c3, e.gr, v, lv, cv, e.zd, h4, k1.1, k2.1, k3.1, k4.1, b1, b2, b3, NF k4.1 hz, fun hs => ?_⟩
    show (lv : Int) = Ty.Pl.sizeN e.t
    rw [← chkN_size hm hs, ← k4.1.row.size]
theorem itE_mem : ∀ (es : List Em) (i s : Int) (x : It), itE es i s = some x → ∃ e ∈ es, x = ⟨e.t, e.rt, e.tg, e.zl, e.zh, firstL e.t e.zd⟩
  | [], _, _, _, h => by cases h
  | e :: es, i, s, x, h => by
    simp only [itE] at h
    split at h
    · cases h
      exact ⟨e, List.mem_cons_self, rfl⟩
    · obtain ⟨e', he, hx⟩ := itE_mem es i s x h
      exact ⟨e', List.mem_cons_of_mem _ he, hx⟩
/-- A value at first is one that may be. -/
theorem itE_may {es : List Em} (hc : newC es = 0) {i s : Int} {x : It} (h : itE es i s = some x) : Ty.chkN x.t x.zv x.zl x.zh = 0 := by
  obtain ⟨e, he, rfl⟩ := itE_mem es i s x h
  exact (mayB_yes ((newC_zero hc).2 e he)).2.2.2.2.2.2
/-- The same but for the values. -/
def SameI (I J : Int → Int → Option It) : Prop := ∀ i s, (I i s = none ∧ J i s = none) ∨ ∃ x y, I i s = some x ∧ J i s = some y ∧ y.t = x.t ∧ y.rt = x.rt ∧ y.zl = x.zl ∧ y.zh = x.zh
theorem SameI.refl (I : Int → Int → Option It) : SameI I I := fun i s => by
  cases h : I i s with
  | none => exact .inl ⟨rfl, rfl⟩
  | some x => exact .inr ⟨x, x, rfl, rfl, rfl, rfl, rfl, rfl⟩
theorem SameI.put {I J : Int → Int → Option It} (h : SameI I J) (i s : Int) (zb : List Int) : SameI I (putI J i s zb) := fun j r => by
  unfold putI
  by_cases hj : (j == i && r == s) = true
  · obtain ⟨q1, q2⟩ : j = i ∧ r = s := by simpa using hj
    rw [if_pos hj, q1, q2]
    rcases h i s with ⟨h1, h2⟩ | ⟨x, y, h1, h2, h3⟩
    · exact .inl ⟨h1, by rw [h2]; rfl⟩
    · exact .inr ⟨x, { y with zv := zb }, h1, by rw [h2]; rfl, h3⟩
  · rw [if_neg hj]
    exact h j r
theorem SameI.cf {I J : Int → Int → Option It} (h : SameI I J) (out : Bool) (x : Mz) : cfI J out x = cfI I out x := by
  unfold cfI
  rcases h x.i x.s with ⟨h1, h2⟩ | ⟨a, b, h1, h2, h3, h4, _⟩
  · rw [h1, h2]
  · rw [h1, h2]
    simp only
    rw [h3, h4]
theorem chkZ_same (cf cf' : Mz → Int) : ∀ (ms : List Mz) (n : Int), (∀ x, cf x = 0 → cf' x = 0) → chkZ cf ms n = 0 → chkZ cf' ms n = 0
  | [], _, _, _ => rfl
  | x :: l, n, hc, h => by
    simp only [chkZ] at h ⊢
    split at h
    · rename_i h1; exact absurd h h1
    · rename_i h1
      split at h
      · exact absurd h (by decide)
      · rename_i h2
        rw [if_neg (by simp only [ne_eq, Decidable.not_not] at h1 ⊢; exact hc x h1), if_neg h2]
        exact chkZ_same cf cf' l _ hc h
theorem chkC_same {W W' : World} {lst lst' : Mp} {I J : Int → Int → Option It} (h : ItD W lst I) (h' : ItD W' lst' J) (hs : SameI I J) {out : Bool} {ms : List Mz} (hc : chkC lst out ms = 0) : chkC lst' out ms = 0 := by
  unfold chkC at hc ⊢
  split at hc
  · exact absurd hc (by decide)
  · rename_i h1
    rw [if_neg h1]
    exact chkZ_same _ _ ms 0 (fun x hx => (cfD_cfI h' out x).2 (by rw [hs.cf]; exact (cfD_cfI h out x).1 hx)) hc
/-- A dictionary beside another one that is written to. -/
theorem ItD.kpD {w w' : World} {lst : Mp} {I : Int → Int → Option It} (h : ItD w lst I) {p m : Nat} {cg : Int} {l2 : Mp} (hp : w.heap[p]? = some (.cells #[.map (some m), .int .i64 cg] 91 (0, 0))) (hm : IsM w m l2) (hk : Kp [p, m] w w') : ItD w' lst I := fun j r => by
  rcases h j r with h | ⟨x, hx, nm, d, ld, cd, l, ll, cl, h, lh, ch, gr, v, lv, cv, zd, e, r1, r2, r3, r4, g⟩
  · exact .inl h
  · exact .inr ⟨x, hx, nm, d, ld, cd, l, ll, cl, h, lh, ch, gr, v, lv, cv, zd, e, r1.kpD hp hm hk, r2.kpD hp hm hk, r3.kpD hp hm hk, r4.kpD hp hm hk, g⟩
theorem tab_kpD {w w' : World} (h : Ty.Tab64 w) {p m : Nat} {cg : Int} {lst : Mp} (hp : w.heap[p]? = some (.cells #[.map (some m), .int .i64 cg] 91 (0, 0))) (hm : IsM w m lst) (hk : Kp [p, m] w w') : Ty.Tab64 w' := fun j hj => by
  have c := h j hj
  have c0 := h 0 (by decide)
  have hne : 1 ∉ [p, m] := fun hmem => by
    simp at hmem
    rcases hmem with rfl | rfl
    · rw [cell_of_row _ _ _ _ _ _ hp] at c0
      simp at c0
    · obtain ⟨es, ck, hmm, _⟩ := hm
      simp [World.cell?, hmm] at c0
  rw [World.cell?_of_block (w := w) (hk.block _ (block_lt_of_cell c) hne)]
  exact c
/-- May a value be written at a place? -/
def mayI (I : Int → Int → Option It) (i s : Int) (zb : List Int) : Prop := ∃ x, I i s = some x ∧ (bits .and .u8 x.rt 2 != 0) = true ∧ Ty.chkN x.t zb x.zl x.zh = 0
theorem mayI.k {I : Int → Int → Option It} {i s : Int} {zb : List Int} (h : mayI I i s zb) (lst : Mp) : mayK lst I i s zb = 0 := by
  obtain ⟨x, h1, h2, h3⟩ := h
  unfold mayK
  rw [h1]
  simp only
  rw [if_pos h2, h3]
theorem mayK_I {I : Int → Int → Option It} {i s : Int} {zb : List Int} {lst : Mp} (h : mayK lst I i s zb = 0) : mayI I i s zb := by
  unfold mayK at h
  cases hx : I i s with
  | none => rw [hx] at h; exact absurd h (miss_ne _ _)
  | some x =>
    rw [hx] at h
    simp only at h
    split at h
    · rename_i h2; exact ⟨x, hx, h2, h⟩
    · exact absurd h (by decide)
theorem SameI.may {I J : Int → Int → Option It} (h : SameI I J) {i s : Int} {zb : List Int} (hm : mayI I i s zb) : mayI J i s zb := by
  obtain ⟨x, h1, h2, h3⟩ := hm
  rcases h i s with ⟨h4, _⟩ | ⟨a, b, h4, h5, h6, h7, h8, h9⟩
  · rw [h1] at h4; cases h4
  · rw [h1] at h4
    cases h4
    exact ⟨b, h5, by rw [h7]; exact h2, by rw [h6, h8, h9]; exact h3⟩
/-- May's code of a Map's place. -/
def mcI (lst : Mp) (I : Int → Int → Option It) : Mq → List Int → Int := fun x zb => mayK lst I x.i x.s zb
theorem mayC_I (p m : Nat) (cg : Int) (lst : Mp) (I : Int → Int → Option It) (w : World) (hp : w.heap[p]? = some (.cells #[.map (some m), .int .i64 cg] 91 (0, 0))) (hm : IsM w m lst) (hI : ItD w lst I) (hT : Ty.Tab64 w) : MayC p lst w (mcI lst I) := fun x h1 h2 W hW zb g hn hO hh => by
  have hb := cfD_bd h1
  have h64 : (x.q.b + 7) / 8 ≤ 8 := by show (x.b.toNat + 7) / 8 ≤ 8; omega
  exact may_dic p m cg lst I x.i x.s (some ⟨g, 0, none⟩) _ _ zb W (blk11 hW hp) (hm.next hW) (hI.next hW) ⟨row_own hn hO hh, Nat.le_refl _, by unfold maxLen; omega⟩ (tab_next hT hW)
/-- Values put at their places, one behind the other. -/
def putA (I : Int → Int → Option It) (l : List (Int × Int × List Int)) : Int → Int → Option It := l.foldl (fun J r => putI J r.1 r.2.1 r.2.2) I
theorem putA_app (I : Int → Int → Option It) (l : List (Int × Int × List Int)) (r : Int × Int × List Int) : putA I (l ++ [r]) = putI (putA I l) r.1 r.2.1 r.2.2 := by
  unfold putA
  rw [List.foldl_append]
  rfl
theorem SameI.puts {I J : Int → Int → Option It} (h : SameI I J) : ∀ (l : List (Int × Int × List Int)), SameI I (putA J l) := fun l => by
  unfold putA
  induction l generalizing J with
  | nil => exact h
  | cons r l ih => exact ih (h.put _ _ _)
/-- What stands at a place behind them. -/
theorem putA_val (I : Int → Int → Option It) (i s : Int) (v : List Int) (hs : I i s ≠ none) : ∀ (l : List (Int × Int × List Int)) (J : Int → Int → Option It), SameI I J → (∀ r ∈ l, r.1 = i → r.2.1 = s → r.2.2 = v) → (valI J i s = v ∨ ∃ r ∈ l, r.1 = i ∧ r.2.1 = s) → valI (putA J l) i s = v
  | [], J, _, _, h => by
    rcases h with h | ⟨r, hr, _⟩
    · exact h
    · cases hr
  | r :: l, J, hJ, hv, h => by
    show valI (putA (putI J r.1 r.2.1 r.2.2) l) i s = v
    refine putA_val I i s v hs l _ (hJ.put _ _ _) (fun x hx => hv x (List.mem_cons_of_mem _ hx)) ?_
    by_cases hc : (i == r.1 && s == r.2.1) = true
    · obtain ⟨q1, q2⟩ : i = r.1 ∧ s = r.2.1 := by simpa using hc
      refine .inl ?_
      unfold valI putI
      rw [if_pos hc, ← q1, ← q2]
      rcases hJ i s with ⟨h1, _⟩ | ⟨x, y, _, h2, _⟩
      · exact absurd h1 hs
      · rw [h2]
        exact hv r List.mem_cons_self q1.symm q2.symm
    · rcases h with h | ⟨x, hx, h1, h2⟩
      · refine .inl ?_
        unfold valI putI
        rw [if_neg hc]
        exact h
      · rcases List.mem_cons.1 hx with rfl | hx
        · exact absurd (by rw [h1, h2]; simp) hc
        · exact .inr ⟨x, hx, h1, h2⟩
#print axioms built_dic
#print axioms chkC_same
#print axioms mayC_I
#print axioms putA_val
end Go.Proofs.YtajllkkbgpijiaaGreatDoor
namespace Go.Proofs.YtajllkkbgpijiaaGreatDoor
open Go.RowKit

/-- What one tells of a Map, the items given. -/
def OneC (xs : List Xi) (out : Bool) (x : Mz) (c : Int) : Prop :=
  (gapB x.i x.s x.b = true ∧ c = if out then 100925505 else 0) ∨
  (gapB x.i x.s x.b = false ∧ (((atX x.i x.s xs 0 100794368).2 ≠ 0 ∧ c = (atX x.i x.s xs 0 100794368).2) ∨
    ((atX x.i x.s xs 0 100794368).2 = 0 ∧ ∃ (j : Nat) (y : Xi), xs[j]? = some y ∧ y.i = x.i ∧ y.s = x.s ∧
      c = if (((bits .and .u8 y.rt 4 != 0) && hasB y.t x.b) && !(bits .and .u8 y.rt (rgt out) == 0)) = true then 0 else 100925505)))
/-- Of no dictionary. -/
def cfN (out : Bool) (x : Mz) : Int := if gapB x.i x.s x.b = true then (if out then 100925505 else 0) else 134217728

set_option linter.unusedSimpArgs false in
set_option maxHeartbeats 4000000 in
set_option maxRecDepth 100000 in
theorem rcheck_many (out : Bool) (pv : Value) (ad : Option Addr) (n cap : Nat) (w : World) (h : 64 < n) : Calls Tryz.prog 26 #[pv, .slice ad n cap, .bool out] w fun e w' => e = .returned (.int .u32 100925506) ∧ w' = w := by
  have h' : (64 : Int) < (n : Int) := by omega
  go_enter Tryz.func26, Tryz.ntmps26
  go_wp2_with fail
  go_ret
  exact ⟨rfl, rfl⟩
set_option linter.unusedSimpArgs false in
set_option maxHeartbeats 4000000 in
set_option maxRecDepth 100000 in
theorem rcheck_gen (out : Bool) (pv : Value) (cf : Mz → Int) (ad : Option Addr) (gm off N cap : Nat) (had : 0 < N → ad = some ⟨gm, off, none⟩) (ms : List Mz) (w : World) (hN : ms.length = N) (h64 : N ≤ 64) (hM : MzAt w gm off ms) (hb1 : ∀ x ∈ ms, cf x = 0 → 0 ≤ x.b ∧ x.b ≤ 1000)
    (hC : ∀ W, Below w.heap.size w W → ∀ x ∈ ms, Calls Tryz.prog 50 #[pv, mpV x.i x.s x.b, .bool out] W fun e w' => e = .returned (.int .u32 (cf x)) ∧ Below W.heap.size W w') :
    Calls Tryz.prog 26 #[pv, .slice ad N cap, .bool out] w fun e w' => e = .returned (.int .u32 (chkZ cf ms 0)) ∧ Below w.heap.size w w' := by
  have HC : Hid (∀ W, Below w.heap.size w W → ∀ x ∈ ms, Calls Tryz.prog 50 #[pv, mpV x.i x.s x.b, .bool out] W fun e w' => e = .returned (.int .u32 (cf x)) ∧ Below W.heap.size W w') := hC
  have HAD : Hid (0 < N → ad = some ⟨gm, off, none⟩) := had
  have HM : Hid (MzAt w gm off ms) := hM
  have HB1 : Hid (∀ x ∈ ms, cf x = 0 → 0 ≤ x.b ∧ x.b ≤ 1000) := hb1
  obtain ⟨res, hres⟩ : ∃ res, Hid (res = chkZ cf ms 0) := ⟨_, rfl⟩
  rw [← hres.out]
  clear hC hM hb1 had
  go_enter Tryz.func26, Tryz.ntmps26
  go_wp2_with fail
  go_loopw [7, 8] (fun cv iv wr => ∃ (k : Nat) (n : Int), k ≤ N ∧ 0 ≤ n ∧ n ≤ 64 ∧ iv = .int .i64 (k : Int) ∧ cv = .int .i64 n ∧ Hid (res = chkZ cf (ms.drop k) n ∧ Below w.heap.size w wr)) (fun _ iv _ => N - (intOf iv).toNat)
  case atStart => exact ⟨0, 0, Nat.zero_le _, by decide, by decide, rfl, rfl, hres.out, Below.refl _ _⟩
  case round =>
    obtain ⟨k, n, hk, hn0, hn, rfl, rfl, HB⟩ := hrel
    by_cases hkN : k < N
    · obtain rfl := HAD.out (by omega)
      have gk : (k : Int) < (N : Int) := by omega
      have gk0 : (0 : Int) ≤ (k : Int) := by omega
      obtain ⟨x, hx⟩ : ∃ x, ms[k]? = some x := ⟨_, List.getElem?_eq_getElem (by omega)⟩
      obtain ⟨c0, c1, c2⟩ := (HM.out.next HB.out.2) k x hx
      have HX : Hid (x ∈ ms) := List.mem_of_getElem? hx
      have hxb := HB1.out x HX.out
      have DR : Hid (res = if cf x ≠ 0 then cf x else if 64 < n + x.b then 100925506 else chkZ cf (ms.drop (k + 1)) (n + x.b)) := by
        show _ = _
        obtain ⟨hk2, he⟩ := List.getElem?_eq_some_iff.1 hx
        have := HB.out.1
        rw [List.drop_eq_getElem_cons hk2, he] at this
        exact this
      have R6 : Hid (Below w.heap.size w wr) := HB.out.2
      obtain ⟨y, hy⟩ : ∃ y, Hid (y = cf x) := ⟨_, rfl⟩
      have wk : IntKind.i64.wrap ((k : Int) + 1) = ((k + 1 : Nat) : Int) := by rw [IntKind.wrap_i64]; omega
      have HCx : Hid (∀ W, Below w.heap.size w W → Calls Tryz.prog 50 #[pv, mpV x.i x.s x.b, .bool out] W fun e w' => e = .returned (.int .u32 y) ∧ Below W.heap.size W w') := fun W hb => by rw [hy.out]; exact HC.out W hb x HX.out
      rw [← hy.out] at DR
      clear hx HB
      go_wp2_with fail
      refine (HCx.out _ R6.out).mono ?_
      rintro e w2 ⟨rfl, hb⟩
      have B2 : Hid (Below w.heap.size w w2) := Below.andThen R6.out hb
      have d2 : w2.cell? ⟨gm, off + k * 3 + 2, none⟩ = some (.int .i64 x.b) := (hb.cell (block_lt_of_cell c2)).trans c2
      clear hb c0 c1 c2
      by_cases hy0 : y = 0
      · subst hy0
        obtain ⟨hx0, hx1⟩ := hxb hy.out.symm
        have ws : IntKind.i64.wrap (n + x.b) = n + x.b := by rw [IntKind.wrap_i64]; omega
        by_cases hs : 64 < n + x.b
        · have gs : (64 : Int) < n + x.b := by omega
          have FR : Hid (res = 100925506) := by show _ = _; rw [DR.out]; simp [hs]
          clear DR
          go_wp2_with fail
          go_ret
          exact ⟨by rw [FR.out]; rfl, B2.out⟩
        · have gs : ¬ ((64 : Int) < n + x.b) := by omega
          have FR : Hid (res = chkZ cf (ms.drop (k + 1)) (n + x.b)) := by show _ = _; rw [DR.out]; simp [hs]
          clear DR
          go_wp2_with fail
          exact ⟨⟨k + 1, n + x.b, by omega, by omega, by omega, by go_num, rfl, FR.out, B2.out⟩, by simp [intOf]; omega⟩
      · have FR : Hid (res = y) := by show _ = _; rw [DR.out]; simp [hy0]
        clear DR
        go_wp2_with fail
        go_ret
        exact ⟨by rw [FR.out]; rfl, B2.out⟩
    · obtain rfl : k = N := by omega
      have FR : Hid (res = 0) := by
        show _ = _
        rw [HB.out.1, List.drop_of_length_le (by omega)]
        rfl
      have R6 : Hid (Below w.heap.size w wr) := HB.out.2
      clear HB
      go_wp2_with fail
      go_ret
      exact ⟨by rw [FR.out]; rfl, R6.out⟩

set_option linter.unusedSimpArgs false in
set_option maxHeartbeats 4000000 in
set_option maxRecDepth 100000 in
theorem rsize_O (ad : Option Addr) (gm off N cap : Nat) (had : 0 < N → ad = some ⟨gm, off, none⟩) (ms : List Mq) (w : World) (hN : ms.length = N) (h64 : N ≤ 64) (hM : MsO w gm off ms) (hs : sumB ms N ≤ 64) :
    Calls Tryz.prog 27 #[.slice ad N cap] w fun e w' => e = .returned (.int .i64 (((sumB ms N + 7) / 8 : Nat) : Int)) ∧ Below w.heap.size w w' := by
  have HAD : Hid (0 < N → ad = some ⟨gm, off, none⟩) := had
  have HM : Hid (MsO w gm off ms) := hM
  have s64 : sumB ms N ≤ 64 := hs
  have e1 : IntKind.i64.wrap (((sumB ms N : Nat) : Int) + 7) = ((sumB ms N : Nat) : Int) + 7 := by rw [IntKind.wrap_i64]; omega
  have e2 : (((sumB ms N : Nat) : Int) + 7).tdiv 8 = (((sumB ms N : Nat) : Int) + 7) / 8 := Int.tdiv_eq_ediv_of_nonneg (by omega)
  clear hM had
  go_enter Tryz.func27, Tryz.ntmps27
  go_wp2_with fail
  go_loopw [3, 4] (fun cv iv wr => ∃ k : Nat, k ≤ N ∧ iv = .int .i64 (k : Int) ∧ cv = .int .i64 ((sumB ms k : Nat) : Int) ∧ Hid (Below w.heap.size w wr)) (fun _ iv _ => N - (intOf iv).toNat)
  case atStart => exact ⟨0, Nat.zero_le _, rfl, rfl, Below.refl _ _⟩
  case round =>
    obtain ⟨k, hk, rfl, rfl, HB⟩ := hrel
    by_cases hkN : k < N
    · obtain rfl := HAD.out (by omega)
      have gk : (k : Int) < (N : Int) := by omega
      have gk0 : (0 : Int) ≤ (k : Int) := by omega
      obtain ⟨x, hx⟩ : ∃ x, ms[k]? = some x := ⟨_, List.getElem?_eq_getElem (by omega)⟩
      obtain ⟨c0, c1, c2⟩ := (HM.out.next HB.out) k x hx
      have SS : Hid (sumB ms (k + 1) = sumB ms k + x.b) := sumB_succ hx
      have SL : Hid (sumB ms (k + 1) ≤ 64) := Nat.le_trans (sumB_le ms (by omega)) hs
      obtain ⟨sk, hsk⟩ : ∃ sk, Hid (sk = sumB ms k) := ⟨_, rfl⟩
      rw [← hsk.out] at SS ⊢
      have wk : IntKind.i64.wrap ((k : Int) + 1) = ((k + 1 : Nat) : Int) := by rw [IntKind.wrap_i64]; omega
      have ws : IntKind.i64.wrap ((sk : Int) + (x.b : Int)) = ((sk + x.b : Nat) : Int) := by have := SS.out; have := SL.out; rw [IntKind.wrap_i64]; omega
      clear hx
      go_wp2_with fail
      exact ⟨⟨k + 1, by omega, by go_num, by rw [SS.out]; go_num, HB.out⟩, by simp [intOf]; omega⟩
    · obtain rfl : k = N := by omega
      go_wp2_with fail
      go_ret
      refine ⟨?_, HB.out⟩
      have : (((sumB ms k + 7) / 8 : Nat) : Int) = (((sumB ms k : Nat) : Int) + 7) / 8 := by omega
      rw [this]
      try rfl
#print axioms rcheck_gen
#print axioms rsize_O
end Go.Proofs.YtajllkkbgpijiaaGreatDoor
