/-
  Rows of places, sorted: between the library's words and ours; the order of places is one.
  places: all places of a dictionary, in their order.
-/
import Derived.Test.YtgfmcjneglnnpaaDoorHc
import Derived.Shelf.SlSortCmp.InsertionK
import Derived.Test.YtgfmcjneglnnpaaDoorDd
namespace Go.Proofs.YtgfmcjneglnnpaaDoor
open Go.RowKit Go.Sort Go.Shelf

instance : Inhabited Pq := ⟨⟨0, 0⟩⟩
theorem cmpI_lt (x y : Int) : cmpI x y < 0 ↔ x < y := by
  unfold cmpI
  split
  · simp [*]
  · split <;> simp <;> omega
theorem cmpI_zero (x y : Int) : cmpI x y = 0 ↔ x = y := by
  unfold cmpI
  split
  · simp; omega
  · split
    · simp; omega
    · simp; omega
/-- Which of two places is ahead. -/
theorem ltP (x y : Pq) : Go.Proofs.ltOf cfP x y = decide (x.i < y.i ∨ (x.i = y.i ∧ x.s < y.s)) := by
  unfold Go.Proofs.ltOf cfP
  congr 1
  by_cases h : cmpI x.i y.i = 0
  · rw [if_pos h, cmpI_lt]
    have := (cmpI_zero _ _).1 h
    rw [this]
    simp
  · rw [if_neg h, cmpI_lt]
    have : x.i ≠ y.i := fun e => h ((cmpI_zero _ _).2 e)
    simp [this]
theorem swoP : SWO (Go.Proofs.ltOf cfP) where
  irrefl x := by rw [ltP]; simp
  trans x y z h1 h2 := by rw [ltP] at *; simp at *; omega
  ntrans x y z h1 h2 := by rw [ltP] at *; simp only [decide_eq_false_iff_not] at *; omega
theorem totP (x y : Pq) (h1 : Go.Proofs.ltOf cfP x y = false) (h2 : Go.Proofs.ltOf cfP y x = false) : x = y := by
  rw [ltP] at h1 h2
  simp only [decide_eq_false_iff_not] at h1 h2
  obtain ⟨a, b⟩ := x
  obtain ⟨c, d⟩ := y
  simp only [Pq.mk.injEq]
  dsimp only at h1 h2
  omega
/-- Places in their order. -/
def srt (l : List Pq) : List Pq := l.mergeSort fun x y => !(Go.Proofs.ltOf cfP) y x
theorem flatP (l : List Pq) : flatK Pq.L 2 l.toArray = (flq l).toArray := by
  apply Array.ext
  · simp [flq_len]
  · intro j h1 h2
    have h1' : j < l.length * 2 := by simpa using h1
    have hi : j / 2 < l.length := by omega
    have e1 := get_flatK Pq.L 2 l.toArray j (by simpa using h1')
    rw [getElem!_pos _ j h1] at e1
    rw [e1]
    have e2 := flq_at l (j / 2) l[j / 2] (List.getElem?_eq_getElem hi)
    have e3 : (flq l)[j]? = (l[j / 2]).L[j % 2]? := by
      rw [← e2, List.getElem?_take, if_pos (by omega), List.getElem?_drop]
      congr 1
      omega
    have e4 : l.toArray[j / 2]! = l[j / 2] := by rw [getElem!_pos _ _ (by simpa using hi)]; simp
    rw [e4]
    have h3 : j < (flq l).length := by simpa using h2
    rw [List.getElem?_eq_getElem h3] at e3
    have h4 : j % 2 < (l[j / 2]).L.length := by rw [Pq.L_len]; omega
    rw [List.getElem?_eq_getElem h4] at e3
    rw [getElem!_pos (l[j / 2]).L (j % 2) h4]
    simpa using e3.symm
theorem IsQ.holds {w : World} {base g cap : Nat} {l : List Pq} (h : IsQ w base (.slice (some ⟨g, 0, none⟩) l.length cap) l) : HoldsK Pq.L 2 w g 0 l.toArray := by
  rcases h.form with ⟨h1, _⟩ | ⟨g', cap', cur, hv, hg, hh, hn, hm, hs, ht⟩
  · cases h1
  · cases hv
    unfold HoldsK
    rw [flatP]
    intro j hj
    have hj' : j < (flq l).length := by simpa using hj
    refine ⟨?_, frozen_of_row w g _ _ _ hh⟩
    rw [Nat.zero_add, cell_of_row w g j _ _ _ hh, getElem!_pos _ j hj]
    have hl := flq_len l
    have : (cur.toList.take (l.length * 2))[j]? = (flq l)[j]? := by rw [ht]
    rw [List.getElem?_take, if_pos (by omega), List.getElem?_eq_getElem hj'] at this
    simpa using this
/-- A row that was sorted. -/
theorem IsQ.sorted {w : World} {base g cap : Nat} {l l' : List Pq} (h : IsQ w base (.slice (some ⟨g, 0, none⟩) l.length cap) l) (hl : l'.length = l.length) (n : Nat) (os : Array Obj) :
    IsQ (Go.Proofs.sortWorldK Pq.L 2 w g 0 n l'.toArray os) base (.slice (some ⟨g, 0, none⟩) l'.length cap) l' ∧ Kp [g] w (Go.Proofs.sortWorldK Pq.L 2 w g 0 n l'.toArray os) := by
  rcases h.form with ⟨h1, _⟩ | ⟨g', cap', cur, hv, hg, hh, hn, hm, hs, ht⟩
  · cases h1
  · cases hv
    have hgl := lt_of_heap hh
    have hp : (putRowK Pq.L 2 (Go.Sort.ahead w n) g 0 l'.toArray).heap[g]? = some (.cells (putCells id 0 (flq l').toArray cur) 24 (0, 0)) := by
      unfold putRowK putRow mapBlock
      rw [flatP]
      simp only [Array.getElem?_modify, if_true]
      show (w.heap[g]?).map _ = _
      rw [hh]
      rfl
    have hsz : (putRowK Pq.L 2 (Go.Sort.ahead w n) g 0 l'.toArray).heap.size = w.heap.size := by
      unfold putRowK
      rw [size_putRow]
      rfl
    refine ⟨⟨flq_len l', .inr ⟨g, cap, putCells id 0 (flq l').toArray cur, rfl, hg, ?_, by omega, hm, by simp [putCells, hs], ?_⟩⟩, rfl, rfl, rfl, ?_, fun k hk hn => ?_⟩
    · unfold Go.Proofs.sortWorldK grow
      rw [Array.getElem?_append_left (by rw [hsz]; exact hgl)]
      exact hp
    · apply List.ext_getElem?
      intro j
      have hll := flq_len l'
      rw [List.getElem?_take]
      by_cases hj : j < l'.length * 2
      · have hc : j < cur.size := by rw [hs]; omega
        have hF : j < (flq l').toArray.size := by simp; omega
        have e : (putCells id 0 (flq l').toArray cur)[j]? = some ((flq l').toArray[j]!) := by
          unfold putCells
          rw [Array.getElem?_mapIdx, Array.getElem?_eq_getElem hc, Option.map_some, if_pos ⟨Nat.zero_le _, by rw [Nat.zero_add]; exact hF⟩]
          rfl
        rw [if_pos hj, Array.getElem?_toList, e, getElem!_pos (flq l').toArray j hF]
        simp
      · rw [if_neg hj, List.getElem?_eq_none (by omega)]
    · unfold Go.Proofs.sortWorldK grow
      simp only [Array.size_append, hsz]
      omega
    · unfold Go.Proofs.sortWorldK grow
      rw [Array.getElem?_append_left (by rw [hsz]; exact hk)]
      unfold putRowK putRow mapBlock
      simp at hn
      simp only [Array.getElem?_modify, if_neg (Ne.symm hn)]
      rfl
#print axioms IsQ.sorted
#print axioms IsQ.holds
#print axioms swoP
end Go.Proofs.YtgfmcjneglnnpaaDoor
namespace Go.Proofs.YtgfmcjneglnnpaaDoor
open Go.RowKit Go.Sort

/-- The places of a map. -/
def keysOf (lst : Mp) : List Pq := lst.map fun x => ⟨x.1, x.2.1⟩
theorem IsQ.mono {w : World} {b c : Nat} {v : Value} {l : List Pq} (h : IsQ w b v l) (hc : c ≤ b) : IsQ w c v l := by
  refine ⟨h.1, ?_⟩
  rcases h.2 with h1 | ⟨g, cap, cur, hv, hg, r⟩
  · exact .inl h1
  · exact .inr ⟨g, cap, cur, hv, by omega, r⟩
theorem IsQ.kp {w w' : World} {b : Nat} {v : Value} {l : List Pq} {S : List Nat} (h : IsQ w b v l) (k : Kp S w w') (hS : ∀ j ∈ S, j < b) : IsQ w' b v l := by
  refine ⟨h.1, ?_⟩
  rcases h.2 with h1 | ⟨g, cap, cur, hv, hg, hh, r⟩
  · exact .inl h1
  · exact .inr ⟨g, cap, cur, hv, hg, k.at (fun hm => by have := hS g hm; omega) hh, r⟩
theorem IsQ.next {w w' : World} {b : Nat} {v : Value} {l : List Pq} (h : IsQ w b v l) (k : Below w.heap.size w w') : IsQ w' b v l := h.kp (Kp.of (S := []) k) (by simp)
theorem isQ_nil (w : World) (b : Nat) : IsQ w b (.slice none 0 0) [] := ⟨rfl, .inl ⟨rfl, rfl⟩⟩
theorem left_all (es : Array MapEntry) : (leftOf es #[]).toList = es.toList := by
  unfold leftOf
  rw [Array.toList_filter]
  exact List.filter_eq_self.2 fun x _ => by simp

theorem srt_sorted (l : List Pq) : (srt l).Pairwise fun x y => (!(Go.Proofs.ltOf cfP) y x) = true := by
  refine List.pairwise_mergeSort ?_ ?_ _
  · intro a b c h1 h2
    simp only [Bool.not_eq_true'] at *
    exact swoP.ntrans c b a h2 h1
  · intro a b
    rw [ltP, ltP]
    simp only [Bool.or_eq_true, Bool.not_eq_true', decide_eq_false_iff_not]
    omega
theorem srt_perm (l : List Pq) : (srt l).Perm l := List.mergeSort_perm _ _
theorem srt_eq {l l' : List Pq} (h : l.Perm l') : srt l = srt l' := by
  refine List.Perm.eq_of_pairwise (le := fun x y => (!(Go.Proofs.ltOf cfP) y x) = true) ?_ (srt_sorted l) (srt_sorted l') ((srt_perm l).trans (h.trans (srt_perm l').symm))
  intro a b _ _ h1 h2
  simp only [Bool.not_eq_true'] at h1 h2
  exact totP a b h2 h1

set_option linter.unusedSimpArgs false in
set_option maxHeartbeats 4000000 in
set_option maxRecDepth 100000 in
theorem places_of (p m : Nat) (cg : Int) (lst : Mp) (w : World) (hp : w.heap[p]? = some (.cells #[.map (some m), .int .i64 cg] 80 (0, 0))) (hm : IsM w m lst) (hl : lst.length ≤ 1000000)
    (HS : ∀ (W : World) (v : Value) (l : List Pq) (b : Nat), IsQ W b v l → b ≤ W.heap.size → l.length ≤ 1000000 → Calls Tryd.prog 51 #[v, .func (.func 43) #[] #[]] W fun e w' => e = .returned (.tuple #[]) ∧ IsQ w' b v (srt l) ∧ Below b W w') :
    Calls Tryd.prog 36 #[.pointer (some ⟨p, 0, none⟩)] w fun e w' => ∃ v, e = .returned v ∧ IsQ w' w.heap.size v (srt (keysOf lst)) ∧ Below w.heap.size w w' := by
  have lm := hm.lt
  have lp := lt_of_heap hp
  obtain ⟨es, clock, hb, he, hs⟩ := hm
  have KQ := kq_of he
  have hlen : es.toList.length = lst.length := by simpa using congrArg List.length he
  have c0 : w.cell? ⟨p, 0, none⟩ = some (.map (some m)) := by rw [cell_of_row _ _ 0 _ _ _ hp]; rfl
  have HN : Hid (srt (keysOf lst) = srt (es.toList.map kq)) := by show _ = _; rw [KQ.1]; rfl
  have K2 : Hid (∀ e ∈ es.toList, e.key = .agg (kq e).A) := KQ.2
  have KS : Hid (Stm es clock) := hs
  have HL : Hid (es.toList.length ≤ 1000000) := by show _ ≤ _; omega
  have HB : Hid (w.heap[m]? = some (.map es clock)) := hb
  have HSS : Hid (∀ (W : World) (v : Value) (l : List Pq) (b : Nat), IsQ W b v l → b ≤ W.heap.size → l.length ≤ 1000000 → Calls Tryd.prog 51 #[v, .func (.func 43) #[] #[]] W fun e w' => e = .returned (.tuple #[]) ∧ IsQ w' b v (srt l) ∧ Below b W w') := HS
  clear KQ he hs hlen hl hp HS
  go_enter Tryd.func36, Tryd.ntmps36
  go_wp2_with (at_range; refine wpList_range_m rfl _ rfl m es clock rfl hb ?_)
  go_frame
  clear hb c0
  go_loopw [3] (fun v wr => ∃ (acc : List Pq) (seen : Array Nat), Hid (IsQ wr (w.heap.size + 1) v acc ∧ wr.heap[w.heap.size]? = some (.mapIter (some m) clock seen clock) ∧ Below w.heap.size w wr ∧ w.heap.size + 1 ≤ wr.heap.size ∧ (acc ++ (leftOf es seen).toList.map kq).Perm (es.toList.map kq)))
    (fun _ wr => wr.rangeLeft m w.heap.size)
  case atStart => exact ⟨[], #[], isQ_nil _ _, heap_new _ _, (by repeat (first | exact Below.refl _ _ | apply Below.drew | apply Below.al)), by simp, by rw [left_all]; exact List.Perm.refl _⟩
  case round =>
    obtain ⟨acc, seen, H⟩ := hrel
    have hr := H.out.2.1
    have hb' : wr.heap[m]? = some (.map es clock) := (H.out.2.2.1.block m lm).trans HB.out
    have hlt : Hid (acc.length ≤ 1000000) := by
      have := H.out.2.2.2.2.length_eq
      have hh := HL.out
      simp at this hh
      show _ ≤ _
      omega
    go_wp2_with (first | (at_next; refine wpList_next_m rfl _ rfl m w.heap.size clock seen es rfl hr hb' KS.out (by omega) ?_ ?_) | go_in)
    · intro h0
      have HE : Hid (srt acc = srt (keysOf lst)) := by
        have := H.out.2.2.2.2
        rw [h0, List.map_nil, List.append_nil] at this
        show _ = _
        rw [HN.out]
        exact srt_eq this
      go_wp2_with fail
      refine (HSS.out _ _ acc (w.heap.size + 1) H.out.1 H.out.2.2.2.1 hlt.out).mono ?_
      rintro e w1 ⟨rfl, hq, hbl⟩
      have R : Hid (IsQ w1 w.heap.size _ (srt (keysOf lst)) ∧ Below w.heap.size w w1) := ⟨by rw [← HE.out]; exact hq.mono (by omega), H.out.2.2.1.trans (hbl.mono (by omega))⟩
      clear hq hbl
      go_wp2_with fail
      go_ret
      exact ⟨_, rfl, R.out⟩
    · intro e w1 hmem hes hsz1 hkp hr1 hen
      have ek := K2.out e (by simpa using hes)
      obtain ⟨y, hy⟩ : ∃ y, Hid (y = kq e) := ⟨_, rfl⟩
      rw [ek, ← hy.out] at hen ⊢
      have HK : Hid (e ∈ (leftOf es seen).toList) := by show _ ∈ _; simpa using hmem
      have E1 : Hid (Kp [w.heap.size] wr w1) := hkp
      have E2 : Hid (w1.heap[w.heap.size]? = some (.mapIter (some m) clock (seen.push e.born) clock)) := hr1
      have E3 : Hid (IsQ w1 (w.heap.size + 1) u3 acc) := H.out.1.kp hkp (by simp)
      have E4 : Hid (w1.heap.size = wr.heap.size) := hsz1
      clear hmem hes hkp hr1 ek hsz1
      go_wp2_with (first | (at_builtin; refine wpList_append_place rfl _ _ rfl (w.heap.size + 1) u3 acc rfl ?q0 ⟨w1.heap.size + 1, 0, none⟩ y rfl ?q1 hlt.out ?q2 ?_) | go_in)
      case q0 => exact E3.out.next (by repeat (first | exact Below.refl _ _ | apply Below.drew | apply Below.al))
      case q1 =>
        intro j u hj
        rw [Addr.add_lit, Nat.zero_add]
        match j, hj with
        | 0, hj => rw [cell_of_row _ _ 0 _ _ _ (at11 _ _ _ (by simp))]; simpa [Pq.L] using hj
        | 1, hj => rw [cell_of_row _ _ 1 _ _ _ (at11 _ _ _ (by simp))]; simpa [Pq.L] using hj
      case q2 => have := H.out.2.2.2.1; have := E4.out; simp; omega
      intro v' z hz hg
      have OB : Hid (∀ k, k < w.heap.size + 1 → some k ≠ u3.ownBlock) := fun k hk q => by have := (E3.out.lt k q.symm).1; omega
      have Z : Hid (∀ k, k < w.heap.size + 1 → z.heap[k]? = w1.heap[k]?) := fun k hk => by
        have h4 := E4.out
        have h5 := H.out.2.2.2.1
        rw [hg.block k (by simp; omega) (OB.out k hk)]
        rw [Below.heap_alloc _ _ _ (by simp; omega), Below.heap_alloc _ _ _ (by omega)]
      have BZ : Hid (Below w.heap.size w z) := by
        have h4 := E4.out
        have h5 := H.out.2.2.2.1
        have h6 := hg.size
        simp at h6
        refine ⟨hg.os.trans (E1.out.os.trans H.out.2.2.1.os), hg.tape.trans (E1.out.tape.trans H.out.2.2.1.tape), hg.output.trans (E1.out.output.trans H.out.2.2.1.output), by have := H.out.2.2.1.size; omega, fun k hk => ?_⟩
        rw [Z.out k (by omega), E1.out.block k (by omega) (by simp; omega)]
        exact H.out.2.2.1.block k hk
      have SZ : Hid (w.heap.size + 1 ≤ z.heap.size) := by
        have h4 := E4.out
        have h5 := H.out.2.2.2.1
        have h6 := hg.size
        simp at h6
        show _ ≤ _
        omega
      have PL := left_push KS.out.2 HK.out
      have PP : Hid (((acc ++ [y]) ++ (leftOf es (seen.push e.born)).toList.map kq).Perm (es.toList.map kq)) := by
        refine List.Perm.trans ?_ H.out.2.2.2.2
        rw [List.append_assoc]
        refine List.Perm.append_left _ ?_
        rw [hy.out]
        exact (PL.map kq).symm
      have ML : Hid ((leftOf es (seen.push e.born)).size < (leftOf es seen).size) := by
        have := PL.length_eq
        simp at this
        show _ < _
        omega
      have HZ : Hid (IsQ z (w.heap.size + 1) v' (acc ++ [y])) := hz
      have zr : z.heap[w.heap.size]? = some (.mapIter (some m) clock (seen.push e.born) clock) := (Z.out _ (by omega)).trans E2.out
      have zm : z.heap[m]? = some (.map es clock) := (BZ.out.block m lm).trans HB.out
      clear hz hg PL
      go_wp2_with fail
      refine ⟨⟨acc ++ [y], seen.push e.born, HZ.out, zr, BZ.out, SZ.out, PP.out⟩, ?_⟩
      simp only [World.rangeLeft, zr, zm, hr, hb']
      exact ML.out
#print axioms places_of
end Go.Proofs.YtgfmcjneglnnpaaDoor
