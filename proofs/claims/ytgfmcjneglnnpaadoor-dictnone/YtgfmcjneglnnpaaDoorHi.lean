/-
  Save.
-/
import Derived.Test.YtgfmcjneglnnpaaDoorHh
import Derived.Test.YtgfmcjneglnnpaaDoorTk9
namespace Go.Proofs.YtgfmcjneglnnpaaDoor
open Go.RowKit

/-- What stands in a map is entries, with values in memory. -/
def Vals (w : World) (lst : Mp) (val : Int → Int → List Int) : Prop := ∀ i s u, lookP lst i s = some u → ∃ nm t rt d ld cd l ll cl h lh ch tg gr v lv cv, u = .agg (itC i s nm t rt d ld cd l ll cl h lh ch tg gr v lv cv) ∧ Row w v lv (val i s) ∧ lv ≤ 65535 ∧ 0 ≤ i ∧ i < 65536
theorem Vals.items {w : World} {lst : Mp} {val : Int → Int → List Int} (h : Vals w lst val) : Items lst := fun i s u hu => by
  obtain ⟨nm, t, rt, d, ld, cd, l, ll, cl, h, lh, ch, tg, gr, v, lv, cv, e, _⟩ := h i s u hu
  exact ⟨nm, t, rt, d, ld, cd, l, ll, cl, h, lh, ch, tg, gr, v, lv, cv, e⟩
/-- The records of a group's first entries. -/
def savK (lst : Mp) (g : Int) (val : Int → Int → List Int) (k : Nat) : List Int := ((sto lst g).take k).flatMap fun x => recB x.i x.s (val x.i x.s)
theorem savK_succ {lst : Mp} {g : Int} {val : Int → Int → List Int} {k : Nat} {x : Pq} (h : (sto lst g)[k]? = some x) : savK lst g val (k + 1) = savK lst g val k ++ recB x.i x.s (val x.i x.s) := by
  obtain ⟨hk, he⟩ := List.getElem?_eq_some_iff.1 h
  unfold savK
  rw [List.take_succ_eq_append_getElem hk, List.flatMap_append, he]
  simp
theorem sto_mem {lst : Mp} {g : Int} {x : Pq} (h : x ∈ sto lst g) : x ∈ keysOf lst := (srt_perm _).mem_iff.1 (List.mem_filter.1 h).1
theorem sto_len (lst : Mp) (g : Int) : (sto lst g).length ≤ lst.length := by
  unfold sto
  refine Nat.le_trans (List.length_filter_le _ _) ?_
  rw [(srt_perm _).length_eq]
  unfold keysOf
  simp
theorem savK_len {w : World} {lst : Mp} {g : Int} {val : Int → Int → List Int} (h : Vals w lst val) (k : Nat) (hk : k ≤ (sto lst g).length) : (savK lst g val k).length ≤ k * 65540 := by
  induction k with
  | zero => simp [savK]
  | succ k ih =>
    have hx : (sto lst g)[k]? = some (sto lst g)[k] := List.getElem?_eq_getElem (by omega)
    obtain ⟨u, hu⟩ := look_mem (sto_mem (List.mem_of_getElem? hx))
    obtain ⟨nm, t, rt, d, ld, cd, l, ll, cl, h, lh, ch, tg, gr, v, lv, cv, _, hr, hl, _⟩ := h _ _ _ hu
    have := hr.size
    have e := ih (by omega)
    rw [savK_succ hx, List.length_append]
    unfold recB
    simp
    omega
theorem IsQ.form2 {w : World} {b : Nat} {v : Value} {l : List Pq} (h : IsQ w b v l) : ∃ a cap, v = .slice a l.length cap ∧ (0 < l.length → ∃ q, a = some ⟨q, 0, none⟩) := by
  rcases h.form with ⟨h1, h2⟩ | ⟨q, cap, _, hv, _⟩
  · rw [h2]
    exact ⟨_, _, h1, fun h => absurd h (by simp)⟩
  · exact ⟨_, _, hv, fun _ => ⟨q, rfl⟩⟩
theorem recB_oct {i s : Int} {zv : List Int} (hi : 0 ≤ i) (hi' : i < 65536) (hs : 0 ≤ s) (hs' : s < 256) (hz : Oct zv) : Oct (recB i s zv) := by
  unfold recB
  refine Oct.app (fun n hn => ?_) hz
  simp at hn
  rcases hn with rfl | rfl | rfl | rfl | rfl <;> omega

theorem fieldI (i s : Int) (nm : ByteArray) (t rt : Int) (d : Option Addr) (ld cd : Nat) (l : Option Addr) (ll cl : Nat) (h : Option Addr) (lh ch : Nat) (tg gr : Int) (v : Option Addr) (lv cv : Nat) (w : World) : (Instr.field 65 (.agg (itC i s nm t rt d ld cd l ll cl h lh ch tg gr v lv cv)) 1).run Tryd.prog w = .ok (.slice v lv cv) w := by kernel_rfl
theorem IsO.mono {w : World} {b c : Nat} {v : Value} {zs : List Int} (h : IsO w b v zs) (hc : c ≤ b) : IsO w c v zs := by
  refine ⟨h.1, ?_⟩
  rcases h.2 with h1 | ⟨g, cap, cur, hv, hg, r⟩
  · exact .inl h1
  · exact .inr ⟨g, cap, cur, hv, by omega, r⟩

set_option linter.unusedSimpArgs false in
set_option maxHeartbeats 4000000 in
set_option maxRecDepth 100000 in
theorem save_any (p m : Nat) (cg g : Int) (lst : Mp) (val : Int → Int → List Int) (w : World) (hp : w.heap[p]? = some (.cells #[.map (some m), .int .i64 cg] 80 (0, 0))) (hm : IsM w m lst) (hv : Vals w lst val) (hl : lst.length ≤ 100000) :
    Calls Tryd.prog 15 #[.pointer (some ⟨p, 0, none⟩), .int .u8 g] w fun e w' => ∃ v, e = .returned v ∧ IsO w' w.heap.size v (savK lst g val (sto lst g).length) ∧ Below w.heap.size w w' := by
  have lp := lt_of_heap hp
  have lm := hm.lt
  have HST : Hid (Calls Tryd.prog 33 #[.pointer (some ⟨p, 0, none⟩), .int .u8 g] w fun e w' => ∃ v, e = .returned v ∧ IsQ w' w.heap.size v (sto lst g) ∧ Below w.heap.size w w') := stored_any p m cg g lst w hp hm hv.items hl
  have HP0 : Hid (w.heap[p]? = some (.cells #[.map (some m), .int .i64 cg] 80 (0, 0))) := hp
  have HM0 : Hid (IsM w m lst) := hm
  have HV : Hid (Vals w lst val) := hv
  have LN : Hid ((sto lst g).length ≤ 100000) := Nat.le_trans (sto_len lst g) hl
  clear hp hm hv hl
  go_enter Tryd.func15, Tryd.ntmps15
  go_wp2_with fail
  refine HST.out.mono ?_
  rintro e w1 ⟨vq, rfl, hq, hb⟩
  obtain ⟨a, cap, rfl, ha⟩ := hq.form2
  obtain ⟨N, hN⟩ : ∃ N, Hid (N = (sto lst g).length) := ⟨_, rfl⟩
  rw [← hN.out] at hq ha LN ⊢
  have HQ : Hid (IsQ w1 w.heap.size (.slice a N cap) (sto lst g)) := hq
  have HA : Hid (0 < N → ∃ q, a = some ⟨q, 0, none⟩) := ha
  have B1 : Hid (Below w.heap.size w w1) := hb
  have hN1 := LN.out
  clear hq ha hb HST
  go_wp2_with fail
  go_loopw [5, 14] (fun u iv wr => ∃ k : Nat, k ≤ N ∧ iv = .int .i64 (k : Int) ∧ Hid (IsO wr w1.heap.size u (savK lst g val k) ∧ Below w1.heap.size w1 wr)) (fun _ iv _ => N - (intOf iv).toNat)
  case atStart => exact ⟨0, Nat.zero_le _, rfl, isO_nil _ _, Below.refl _ _⟩
  case round =>
    obtain ⟨k, hk, rfl, HR⟩ := hrel
    by_cases hkN : k < N
    · obtain ⟨q, rfl⟩ := HA.out (by omega)
      have gk : (k : Int) < (N : Int) := by omega
      have gk0 : (0 : Int) ≤ (k : Int) := by omega
      have HX := at_some (sto lst g) k (by rw [← hN.out]; exact hkN)
      obtain ⟨x, hx⟩ : ∃ x, Hid (x = at_ (sto lst g) k) := ⟨_, rfl⟩
      rw [← hx.out] at HX
      obtain ⟨u, hu⟩ := look_mem (sto_mem (List.mem_of_getElem? HX))
      obtain ⟨nm, t, rt, d, ld, cd, l, ll, cl, h, lh, ch, tg, gr, v, lv, cv, rfl, hrow, hlv, hi0, hi1⟩ := HV.out _ _ _ hu
      have BR : Hid (Below w1.heap.size w1 wr) := HR.out.2
      have BW : Hid (Below w.heap.size w wr) := Below.andThen B1.out HR.out.2
      have HP : Hid (w.heap[p]? = some (.cells #[.map (some m), .int .i64 cg] 80 (0, 0))) := HP0.out
      have HM : Hid (IsM w m lst) := HM0.out
      have HU : Hid (lookP lst x.i x.s = some (.agg (itC x.i x.s nm t rt d ld cd l ll cl h lh ch tg gr v lv cv))) := hu
      have lpr : p < wr.heap.size := by have := BW.out.size; omega
      have LD := ((show IsQ w1 w.heap.size (.slice (some ⟨q, 0, none⟩) (sto lst g).length cap) (sto lst g) from by rw [← hN.out]; exact HQ.out).next HR.out.2).load k x HX
      have APP : Hid (∀ W, Below wr.heap.size wr W → Calls Tryd.prog 35 #[.agg #[.int .u16 x.i, .int .u8 x.s, .slice v lv cv], u5] W fun e w' => ∃ v', e = .returned v' ∧ IsO w' w1.heap.size v' (savK lst g val (k + 1)) ∧ W.grownBy w' u5.ownBlock) := fun W hW => by
        have hlen := savK_len HV.out k (by rw [← hN.out]; exact hk)
        have hs1 := HR.out.2.size
        have hs2 := hW.size
        have B2 : Below w1.heap.size w1 W := Below.andThen HR.out.2 hW
        have := appendTo_any x.i x.s v lv cv (val x.i x.s) (savK lst g val k) u5 w1.heap.size W (HR.out.1.next hW) (by omega) (fun W2 h2 => hrow.next (Below.andThen B1.out (B2.trans h2))) hi0 hi1 (by omega) (by omega)
        rw [← savK_succ HX] at this
        exact this
      have OWN : Hid (∀ (z W : World), (Below w1.heap.size w1 W ∧ W.heap[p]? = some (.cells #[.map (some m), .int .i64 cg] 80 (0, 0)) ∧ IsM W m lst ∧ W.heap[wr.heap.size]? = some (.cells #[.int .u16 x.i, .int .u8 x.s] 24 (0, 0)) ∧ wr.heap.size + 1 ≤ W.heap.size) → W.grownBy z u5.ownBlock → (Below w1.heap.size w1 z ∧ z.heap[p]? = some (.cells #[.map (some m), .int .i64 cg] 80 (0, 0)) ∧ IsM z m lst ∧ z.heap[wr.heap.size]? = some (.cells #[.int .u16 x.i, .int .u8 x.s] 24 (0, 0)) ∧ wr.heap.size + 1 ≤ z.heap.size)) := fun z W hS hg => by
        obtain ⟨s1, s2, s3, s4, s5⟩ := hS
        have hs1 := HR.out.2.size
        have hs0 := B1.out.size
        have nb : ∀ kk, kk < w1.heap.size ∨ wr.heap.size ≤ kk → some kk ≠ u5.ownBlock := fun kk hkk e => by have := HR.out.1.lt kk e.symm; omega
        refine ⟨⟨hg.os.trans s1.os, hg.tape.trans s1.tape, hg.output.trans s1.output, Nat.le_trans s1.size hg.size, fun kk hkk => (hg.block kk (by omega) (nb kk (.inl hkk))).trans (s1.block kk hkk)⟩, (hg.block p (by omega) (nb p (.inl (by omega)))).trans s2, ?_, (hg.block _ (by omega) (nb _ (.inr (Nat.le_refl _)))).trans s4, Nat.le_trans s5 hg.size⟩
        obtain ⟨es, c, hb, r⟩ := s3
        exact ⟨es, c, (hg.block m (by omega) (nb m (.inl (by omega)))).trans hb, r⟩
      go_wp2_with (refine wpList_load_by rfl 24 (.tmp 16) rfl _ _ rfl LD ?_)
      refine wp_region_held_drew (S := fun z => Below w1.heap.size w1 z ∧ z.heap[p]? = some (.cells #[.map (some m), .int .i64 cg] 80 (0, 0)) ∧ IsM z m lst ∧ z.heap[wr.heap.size]? = some (.cells #[.int .u16 x.i, .int .u8 x.s] 24 (0, 0)) ∧ wr.heap.size + 1 ≤ z.heap.size) (by kernel_rfl) (⟨Below.drew (Below.al BR.out _), ext11 (blk11 BW.out HP.out), (HM.out.next BW.out).next (by repeat (first | exact Below.refl _ _ | apply Below.drew | apply Below.al)), at11 _ _ _ rfl, by simp⟩) (fun hHeld => ?_)
      refine tk 0 (plV x.i x.s) rfl (.inl ⟨by rfl, ?_⟩) ?_
      · intro w9 hSw
        try dsimp only at hSw
        exact ex_load11 24 (.tmp 7) rfl _ _ rfl (load_part 24 2 sizeP aggP _ (wr.heap.size) 0 [.int .u16 x.i, .int .u8 x.s] _ hSw.2.2.2.1 (by simp))
      try simp only [Act.put, gA, gS, gZ, sA, sZ, sS]
      refine tk 1 (.pointer (some ⟨p, 0, none⟩)) rfl (.inl ⟨by rfl, ?_⟩) ?_
      · intro w9 hSw
        try dsimp only at hSw
        go_simp
        all_goals try decide
        all_goals try assumption
        all_goals try omega
      try simp only [Act.put, gA, gS, gZ, sA, sZ, sS]
      refine tk 2 (.pointer (some ⟨p, 0, none⟩)) rfl (.inl ⟨by rfl, ?_⟩) ?_
      · intro w9 hSw
        try dsimp only at hSw
        go_simp
        all_goals try decide
        all_goals try assumption
        all_goals try omega
      try simp only [Act.put, gA, gS, gZ, sA, sZ, sS]
      refine tk 3 (.pointer (some ⟨p, 0, none⟩)) rfl (.inl ⟨by rfl, ?_⟩) ?_
      · intro w9 hSw
        try dsimp only at hSw
        go_simp
        all_goals try decide
        all_goals try assumption
        all_goals try omega
      try simp only [Act.put, gA, gS, gZ, sA, sZ, sS]
      refine tk 4 (.map (some m)) rfl (.inl ⟨by rfl, ?_⟩) ?_
      · intro w9 hSw
        try dsimp only at hSw
        have c0 : w9.cell? ⟨p, 0, none⟩ = some (.map (some m)) := by rw [cell_of_row _ _ 0 _ _ _ hSw.2.1]; rfl
        go_simp
        all_goals try assumption
      try simp only [Act.put, gA, gS, gZ, sA, sZ, sS]
      refine tk 5 (plV x.i x.s) rfl (.inl ⟨by rfl, ?_⟩) ?_
      · intro w9 hSw
        try dsimp only at hSw
        exact ex_load11 24 (.tmp 7) rfl _ _ rfl (load_part 24 2 sizeP aggP _ (wr.heap.size) 0 [.int .u16 x.i, .int .u8 x.s] _ hSw.2.2.2.1 (by simp))
      try simp only [Act.put, gA, gS, gZ, sA, sZ, sS]
      refine tk 6 (.agg (itC x.i x.s nm t rt d ld cd l ll cl h lh ch tg gr v lv cv)) rfl (.inl ⟨by rfl, ?_⟩) ?_
      · intro w9 hSw
        try dsimp only at hSw
        exact ex_look 78 (.tmp 22) (.tmp 23) false rfl _ _ _ rfl rfl (look_one _ m lst x.i x.s _ hSw.2.2.1 HU.out)
      try simp only [Act.put, gA, gS, gZ, sA, sZ, sS]
      refine tk 7 (.slice v lv cv) rfl (.inl ⟨by rfl, ?_⟩) ?_
      · intro w9 hSw
        try dsimp only at hSw
        go_simp
        rw [fieldI]
        rfl
      try simp only [Act.put, gA, gS, gZ, sA, sZ, sS]
      refine tk 8 (.agg #[.int .u16 x.i, .int .u8 x.s, .slice v lv cv]) rfl (.inl ⟨by rfl, ?_⟩) ?_
      · intro w9 hSw
        try dsimp only at hSw
        go_simp
        all_goals try decide
        all_goals try assumption
        all_goals try omega
      try simp only [Act.put, gA, gS, gZ, sA, sZ, sS]
      refine tk 9 (u5) rfl (.inl ⟨by rfl, ?_⟩) ?_
      · intro w9 hSw
        try dsimp only at hSw
        go_simp
        all_goals try decide
        all_goals try assumption
        all_goals try omega
      try simp only [Act.put, gA, gS, gZ, sA, sZ, sS]
      refine wpAnyH_ready (rs := [10]) (by kernel_rfl) (by simp) ?_
      refine AllReadyH.cons rfl (fun K' hK => ?_) AllReadyH.nil
      rw [if_pos (by rfl)]
      simp only [gA, gS, gZ]
      go_wp2_with fail
      refine (APP.out _ (Below.drew (Below.al (Below.refl _ _) _))).mono ?_
      rintro e z ⟨v5, rfl, ho5, hg5⟩
      have GG := OWN.out z _ hHeld hg5
      have HO5 : Hid (IsO z w1.heap.size v5 (savK lst g val (k + 1))) := ho5
      clear ho5 hg5
      try go_wp2_with fail
      refine hK.out _ _ (GG) (fun hHeld => ?_)
      clear hK K'
      try simp only [Act.put, gA, gS, gZ, sA, sZ, sS]
      refine tk 11 (v5) rfl (.inl ⟨by rfl, ?_⟩) ?_
      · intro w9 hSw
        try dsimp only at hSw
        go_simp
        all_goals try decide
        all_goals try assumption
        all_goals try omega
      try simp only [Act.put, gA, gS, gZ, sA, sZ, sS]
      refine wpAnyH_done (by kernel_rfl) ?_ _
      have BZ : Hid (Below w1.heap.size w1 z) := hHeld.1
      have wk : IntKind.i64.wrap ((k : Int) + 1) = ((k + 1 : Nat) : Int) := by rw [IntKind.wrap_i64]; omega
      clear hHeld LD APP OWN HX
      go_wp2_with fail
      exact ⟨⟨k + 1, by omega, rfl, HO5.out, BZ.out⟩, by simp [intOf]; omega⟩
    · obtain rfl : k = N := by omega
      have R : Hid (IsO wr w.heap.size u5 (savK lst g val (sto lst g).length) ∧ Below w.heap.size w wr) := ⟨by rw [← hN.out]; exact HR.out.1.mono B1.out.size, Below.andThen B1.out HR.out.2⟩
      go_wp2_with fail
      go_ret
      exact ⟨_, rfl, R.out⟩
#print axioms save_any
end Go.Proofs.YtgfmcjneglnnpaaDoor
