/-
  places: all places of a dictionary, in their order.
-/
import Derived.Test.YtpjmebaipnpegaaDoorHb
import Derived.Test.YtpjmebaipnpegaaDoorDf
namespace Go.Proofs.YtpjmebaipnpegaaDoor
open Go.RowKit Go.Sort

/-- The places of a map. -/
def keysOf (lst : Mp) : List Pq := lst.map fun x => ⟨x.1, x.2.1⟩
theorem IsQ.mono {w : World} {b c : Nat} {v : Value} {l : List Pq} (h : IsQ w b v l) (hc : c ≤ b) : IsQ w c v l := by
  refine ⟨h.1, ?_⟩
  rcases h.2 with h1 | ⟨g, cap, cur, hv, hg, r⟩
  · exact .inl h1
  · exact .inr ⟨g, cap, cur, hv, by omega, r⟩
theorem IsQ.kp {w w' : World} {b : Nat} {v : Value} {l : List Pq} {S : List Nat} (h : IsQ w b v l) (k : Kp S w w') (hS : ∀ j ∈ S, j < b) : IsQ w' b v l := by
  refine ⟨h.1, ?_⟩
  rcases h.2 with h1 | ⟨g, cap, cur, hv, hg, hh, r⟩
  · exact .inl h1
  · exact .inr ⟨g, cap, cur, hv, hg, k.at (fun hm => by have := hS g hm; omega) hh, r⟩
theorem IsQ.next {w w' : World} {b : Nat} {v : Value} {l : List Pq} (h : IsQ w b v l) (k : Below w.heap.size w w') : IsQ w' b v l := h.kp (Kp.of (S := []) k) (by simp)
theorem isQ_nil (w : World) (b : Nat) : IsQ w b (.slice none 0 0) [] := ⟨rfl, .inl ⟨rfl, rfl⟩⟩
theorem left_all (es : Array MapEntry) : (leftOf es #[]).toList = es.toList := by
  unfold leftOf
  rw [Array.toList_filter]
  exact List.filter_eq_self.2 fun x _ => by simp

theorem srt_sorted (l : List Pq) : (srt l).Pairwise fun x y => (!(Go.Proofs.ltOf cfP) y x) = true := by
  refine List.pairwise_mergeSort ?_ ?_ _
  · intro a b c h1 h2
    simp only [Bool.not_eq_true'] at *
    exact swoP.ntrans c b a h2 h1
  · intro a b
    rw [ltP, ltP]
    simp only [Bool.or_eq_true, Bool.not_eq_true', decide_eq_false_iff_not]
    omega
theorem srt_perm (l : List Pq) : (srt l).Perm l := List.mergeSort_perm _ _
theorem srt_eq {l l' : List Pq} (h : l.Perm l') : srt l = srt l' := by
  refine List.Perm.eq_of_pairwise (le := fun x y => (!(Go.Proofs.ltOf cfP) y x) = true) ?_ (srt_sorted l) (srt_sorted l') ((srt_perm l).trans (h.trans (srt_perm l').symm))
  intro a b _ _ h1 h2
  simp only [Bool.not_eq_true'] at h1 h2
  exact totP a b h2 h1

set_option linter.unusedSimpArgs false in
set_option maxHeartbeats 4000000 in
set_option maxRecDepth 100000 in
theorem places_of (p m : Nat) (cg : Int) (lst : Mp) (w : World) (hp : w.heap[p]? = some (.cells #[.map (some m), .int .i64 cg] 50 (0, 0))) (hm : IsM w m lst) (hl : lst.length ≤ 1000000)
    (HS : ∀ (W : World) (v : Value) (l : List Pq) (b : Nat), IsQ W b v l → b ≤ W.heap.size → l.length ≤ 1000000 → Calls Tryd.prog 48 #[v, .func (.func 39) #[] #[]] W fun e w' => e = .returned (.tuple #[]) ∧ IsQ w' b v (srt l) ∧ Below b W w') :
    Calls Tryd.prog 36 #[.pointer (some ⟨p, 0, none⟩)] w fun e w' => ∃ v, e = .returned v ∧ IsQ w' w.heap.size v (srt (keysOf lst)) ∧ Below w.heap.size w w' := by
  have lm := hm.lt
  have lp := lt_of_heap hp
  obtain ⟨es, clock, hb, he, hs⟩ := hm
  have KQ := kq_of he
  have hlen : es.toList.length = lst.length := by simpa using congrArg List.length he
  have c0 : w.cell? ⟨p, 0, none⟩ = some (.map (some m)) := by rw [cell_of_row _ _ 0 _ _ _ hp]; rfl
  have HN : Hid (srt (keysOf lst) = srt (es.toList.map kq)) := by show _ = _; rw [KQ.1]; rfl
  have K2 : Hid (∀ e ∈ es.toList, e.key = .agg (kq e).A) := KQ.2
  have KS : Hid (Stm es clock) := hs
  have HL : Hid (es.toList.length ≤ 1000000) := by show _ ≤ _; omega
  have HB : Hid (w.heap[m]? = some (.map es clock)) := hb
  have HSS : Hid (∀ (W : World) (v : Value) (l : List Pq) (b : Nat), IsQ W b v l → b ≤ W.heap.size → l.length ≤ 1000000 → Calls Tryd.prog 48 #[v, .func (.func 39) #[] #[]] W fun e w' => e = .returned (.tuple #[]) ∧ IsQ w' b v (srt l) ∧ Below b W w') := HS
  clear KQ he hs hlen hl hp HS
  go_enter Tryd.func36, Tryd.ntmps36
  go_wp2_with (at_range; refine wpList_range_m rfl _ rfl m es clock rfl hb ?_)
  go_frame
  clear hb c0
  go_loopw [3] (fun v wr => ∃ (acc : List Pq) (seen : Array Nat), Hid (IsQ wr (w.heap.size + 1) v acc ∧ wr.heap[w.heap.size]? = some (.mapIter (some m) clock seen clock) ∧ Below w.heap.size w wr ∧ w.heap.size + 1 ≤ wr.heap.size ∧ (acc ++ (leftOf es seen).toList.map kq).Perm (es.toList.map kq)))
    (fun _ wr => wr.rangeLeft m w.heap.size)
  case atStart => exact ⟨[], #[], isQ_nil _ _, heap_new _ _, (by repeat (first | exact Below.refl _ _ | apply Below.drew | apply Below.al)), by simp, by rw [left_all]; exact List.Perm.refl _⟩
  case round =>
    obtain ⟨acc, seen, H⟩ := hrel
    have hr := H.out.2.1
    have hb' : wr.heap[m]? = some (.map es clock) := (H.out.2.2.1.block m lm).trans HB.out
    have hlt : Hid (acc.length ≤ 1000000) := by
      have := H.out.2.2.2.2.length_eq
      have hh := HL.out
      simp at this hh
      show _ ≤ _
      omega
    go_wp2_with (first | (at_next; refine wpList_next_m rfl _ rfl m w.heap.size clock seen es rfl hr hb' KS.out (by omega) ?_ ?_) | go_in)
    · intro h0
      have HE : Hid (srt acc = srt (keysOf lst)) := by
        have := H.out.2.2.2.2
        rw [h0, List.map_nil, List.append_nil] at this
        show _ = _
        rw [HN.out]
        exact srt_eq this
      go_wp2_with fail
      refine (HSS.out _ _ acc (w.heap.size + 1) H.out.1 H.out.2.2.2.1 hlt.out).mono ?_
      rintro e w1 ⟨rfl, hq, hbl⟩
      have R : Hid (IsQ w1 w.heap.size _ (srt (keysOf lst)) ∧ Below w.heap.size w w1) := ⟨by rw [← HE.out]; exact hq.mono (by omega), H.out.2.2.1.trans (hbl.mono (by omega))⟩
      clear hq hbl
      go_wp2_with fail
      go_ret
      exact ⟨_, rfl, R.out⟩
    · intro e w1 hmem hes hsz1 hkp hr1 hen
      have ek := K2.out e (by simpa using hes)
      obtain ⟨y, hy⟩ : ∃ y, Hid (y = kq e) := ⟨_, rfl⟩
      rw [ek, ← hy.out] at hen ⊢
      have HK : Hid (e ∈ (leftOf es seen).toList) := by show _ ∈ _; simpa using hmem
      have E1 : Hid (Kp [w.heap.size] wr w1) := hkp
      have E2 : Hid (w1.heap[w.heap.size]? = some (.mapIter (some m) clock (seen.push e.born) clock)) := hr1
      have E3 : Hid (IsQ w1 (w.heap.size + 1) u3 acc) := H.out.1.kp hkp (by simp)
      have E4 : Hid (w1.heap.size = wr.heap.size) := hsz1
      clear hmem hes hkp hr1 ek hsz1
      go_wp2_with (first | (at_builtin; refine wpList_append_place rfl _ _ rfl (w.heap.size + 1) u3 acc rfl ?q0 ⟨w1.heap.size + 1, 0, none⟩ y rfl ?q1 hlt.out ?q2 ?_) | go_in)
      case q0 => exact E3.out.next (by repeat (first | exact Below.refl _ _ | apply Below.drew | apply Below.al))
      case q1 =>
        intro j u hj
        rw [Addr.add_lit, Nat.zero_add]
        match j, hj with
        | 0, hj => rw [cell_of_row _ _ 0 _ _ _ (at11 _ _ _ (by simp))]; simpa [Pq.L] using hj
        | 1, hj => rw [cell_of_row _ _ 1 _ _ _ (at11 _ _ _ (by simp))]; simpa [Pq.L] using hj
      case q2 => have := H.out.2.2.2.1; have := E4.out; simp; omega
      intro v' z hz hg
      have OB : Hid (∀ k, k < w.heap.size + 1 → some k ≠ u3.ownBlock) := fun k hk q => by have := (E3.out.lt k q.symm).1; omega
      have Z : Hid (∀ k, k < w.heap.size + 1 → z.heap[k]? = w1.heap[k]?) := fun k hk => by
        have h4 := E4.out
        have h5 := H.out.2.2.2.1
        rw [hg.block k (by simp; omega) (OB.out k hk)]
        rw [Below.heap_alloc _ _ _ (by simp; omega), Below.heap_alloc _ _ _ (by omega)]
      have BZ : Hid (Below w.heap.size w z) := by
        have h4 := E4.out
        have h5 := H.out.2.2.2.1
        have h6 := hg.size
        simp at h6
        refine ⟨hg.os.trans (E1.out.os.trans H.out.2.2.1.os), hg.tape.trans (E1.out.tape.trans H.out.2.2.1.tape), hg.output.trans (E1.out.output.trans H.out.2.2.1.output), by have := H.out.2.2.1.size; omega, fun k hk => ?_⟩
        rw [Z.out k (by omega), E1.out.block k (by omega) (by simp; omega)]
        exact H.out.2.2.1.block k hk
      have SZ : Hid (w.heap.size + 1 ≤ z.heap.size) := by
        have h4 := E4.out
        have h5 := H.out.2.2.2.1
        have h6 := hg.size
        simp at h6
        show _ ≤ _
        omega
      have PL := left_push KS.out.2 HK.out
      have PP : Hid (((acc ++ [y]) ++ (leftOf es (seen.push e.born)).toList.map kq).Perm (es.toList.map kq)) := by
        refine List.Perm.trans ?_ H.out.2.2.2.2
        rw [List.append_assoc]
        refine List.Perm.append_left _ ?_
        rw [hy.out]
        exact (PL.map kq).symm
      have ML : Hid ((leftOf es (seen.push e.born)).size < (leftOf es seen).size) := by
        have := PL.length_eq
        simp at this
        show _ < _
        omega
      have HZ : Hid (IsQ z (w.heap.size + 1) v' (acc ++ [y])) := hz
      have zr : z.heap[w.heap.size]? = some (.mapIter (some m) clock (seen.push e.born) clock) := (Z.out _ (by omega)).trans E2.out
      have zm : z.heap[m]? = some (.map es clock) := (BZ.out.block m lm).trans HB.out
      clear hz hg PL
      go_wp2_with fail
      refine ⟨⟨acc ++ [y], seen.push e.born, HZ.out, zr, BZ.out, SZ.out, PP.out⟩, ?_⟩
      simp only [World.rangeLeft, zr, zm, hr, hb']
      exact ML.out
#print axioms places_of
end Go.Proofs.YtpjmebaipnpegaaDoor
