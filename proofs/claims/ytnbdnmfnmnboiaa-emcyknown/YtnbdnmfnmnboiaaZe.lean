/-
  The walks of the program's New and Register.
-/
import Derived.Test.YtnbdnmfnmnboiaaZd
namespace Go.Proofs.Ytnbdnmfnmnboiaa
open Go.RowKit

/-- Errors as New makes them. -/
def newS (a i : Int) : ES := ⟨a, i, [], List.replicate 16 0, 0, [], false, 0⟩
theorem left_all (es : Array MapEntry) : (leftOf es #[]).toList = es.toList := by
  unfold leftOf
  rw [Array.toList_filter]
  exact List.filter_eq_self.2 fun x _ => by simp
theorem newS_ok (a i : Int) (h : ndB a = true) (hi : tmB i = true) : (newS a i).Ok := by
  have h1 : 1 ≤ a ∧ a ≤ 127 := by simpa [ndB] using h
  have h2 := tmB_of hi
  exact ⟨h1.1, h1.2, h2.1, h2.2, by simp [newS], by simp [newS], by simp [newS], by simp [newS], by simp [newS], by simp [newS], by simp [newS], by simp [newS], fun _ => rfl⟩
set_option linter.unusedSimpArgs false in
set_option maxHeartbeats 4000000 in
set_option maxRecDepth 100000 in
theorem new_bad (a i : Int) (h : ndB a = false ∨ tmB i = false) (w : World) : Calls Try.prog 9 #[.int .u8 a, .int .i64 i] w fun e w' => e = .returned (.tuple #[.pointer none, .int .i64 2]) ∧ w' = w := by
  have N1 := fun W => isNode_any a W
  have T1 := fun W => isTime_any i W
  cases hn : ndB a with
  | false =>
    rw [hn] at N1
    clear h hn
    go_enter Try.func9, Try.ntmps9
    go_wp2_with fail
    refine (N1 _).mono ?_
    rintro e w1 ⟨rfl, rfl⟩
    go_wp2_with fail
    exact bodyPost_ret (v := .tuple #[.pointer none, .int .i64 2]) (by simp [results, Try.results9, go_sem]) rfl ⟨rfl, rfl⟩
  | true =>
    have ht : tmB i = false := by rcases h with h | h; rw [hn] at h; cases h; exact h
    rw [hn] at N1
    rw [ht] at T1
    clear h hn ht
    go_enter Try.func9, Try.ntmps9
    go_wp2_with fail
    refine (N1 _).mono ?_
    rintro e w1 ⟨rfl, rfl⟩
    go_wp2_with fail
    refine (T1 _).mono ?_
    rintro e w1 ⟨rfl, rfl⟩
    go_wp2_with fail
    exact bodyPost_ret (v := .tuple #[.pointer none, .int .i64 2]) (by simp [results, Try.results9, go_sem]) rfl ⟨rfl, rfl⟩
set_option linter.unusedSimpArgs false in
set_option maxHeartbeats 4000000 in
set_option maxRecDepth 100000 in
theorem new_ok (a i : Int) (h : ndB a = true) (hi : tmB i = true) (w : World) : Calls Try.prog 9 #[.int .u8 a, .int .i64 i] w fun e w' => (∃ p m, e = .returned (.tuple #[.pointer (some ⟨p, 0, none⟩), .int .i64 0]) ∧ IsE w' p m (.slice none 0 0) (newS a i) ∧ w.heap.size ≤ p ∧ w.heap.size ≤ m) ∧ Below w.heap.size w w' := by
  have N1 := fun W => isNode_any a W
  have T1 := fun W => isTime_any i W
  have OK : Hid ((newS a i).Ok) := newS_ok a i h hi
  rw [h] at N1
  rw [hi] at T1
  have hmm := @run_makeMap Try.prog
  clear h hi
  go_enter Try.func9, Try.ntmps9
  go_wp2_with fail
  refine (N1 _).mono ?_
  rintro e w1 ⟨rfl, rfl⟩
  go_wp2_with fail
  refine (T1 _).mono ?_
  rintro e w1 ⟨rfl, rfl⟩
  go_wp2_with fail
  refine bodyPost_ret (v := .tuple #[.pointer (some ⟨w1.heap.size + 1, 0, none⟩), .int .i64 0]) (by simp [results, Try.results9, go_sem]) rfl ⟨⟨w1.heap.size + 1, w1.heap.size, rfl, ⟨?_, (isM_new w1).next (Below.al (Below.refl _ _) _), own_nil _ _ _, OK.out⟩, by omega, by omega⟩, (by repeat (first | exact Below.refl _ _ | apply Below.drew | apply Below.al))⟩
  exact at11 _ _ _ (by simp)

/-- The mask of a map's entry. -/
def vq (e : MapEntry) : Nat := match e.val with
  | .int _ x => x.toNat
  | _ => 0
theorem vq_of {es : List MapEntry} {l : List (Int × Nat)} (h : es.map (fun e => (e.key, e.val)) = (msk l).map fun x => (Value.int .u16 x.1, Value.int .u8 x.2)) : es.map vq = l.map (fun x => 2 ^ x.2) ∧ ∀ e ∈ es, (∃ c, e.key = .int .u16 c) ∧ e.val = .int .u8 (vq e : Int) := by
  induction es generalizing l with
  | nil =>
    cases l with
    | nil => simp
    | cons x l => simp [msk] at h
  | cons e es ih =>
    cases l with
    | nil => simp [msk] at h
    | cons x l =>
      simp only [msk, List.map_cons, List.cons.injEq, Prod.mk.injEq] at h
      obtain ⟨⟨h1, h2⟩, h3⟩ := h
      obtain ⟨a, b⟩ := ih h3
      have hk : vq e = 2 ^ x.2 := by unfold vq; rw [h2]; exact Int.toNat_natCast _
      refine ⟨by simp only [List.map_cons, a, hk], fun q hq => ?_⟩
      rcases List.mem_cons.1 hq with rfl | hq
      · exact ⟨⟨_, h1⟩, by rw [hk, h2]⟩
      · exact b q hq
theorem u8or (a b : Nat) (ha : a < 256) (hb : b < 256) : bits .or .u8 (a : Int) (b : Int) = ((a ||| b : Nat) : Int) := u8_or_nat a b ha hb
set_option linter.unusedSimpArgs false in
set_option maxHeartbeats 4000000 in
set_option maxRecDepth 100000 in
theorem register_any {w : World} {p m : Nat} {v : Value} {S : ES} (h : IsE w p m v S) : Calls Try.prog 19 #[.pointer (some ⟨p, 0, none⟩)] w fun e w' => e = .returned (.int .u8 (S.reg : Int)) ∧ Below w.heap.size w w' := by
  have lm := h.map.lt
  have lp := h.lt
  have k2 := h.c2
  have RL : Hid (∀ b ∈ S.st.map (fun x => 2 ^ x.2), b < 256) := fun b hb => by
    obtain ⟨x, hx, rfl⟩ := List.mem_map.1 hb
    exact pow_lt (h.ok.bit x hx)
  obtain ⟨es, clock, hb, he, hs⟩ := h.map
  have KQ := vq_of he
  obtain ⟨R, hR⟩ : ∃ R, Hid (R = S.reg) := ⟨_, rfl⟩
  rw [← hR.out]
  have HN : Hid (R = regN (es.toList.map vq)) := by show _ = _; rw [KQ.1, hR.out]; rfl
  have HV : Hid (∀ e ∈ es.toList, vq e < 256) := fun e he => RL.out _ (by rw [← KQ.1]; exact List.mem_map.2 ⟨e, he, rfl⟩)
  have K2 : Hid (∀ e ∈ es.toList, (∃ c, e.key = .int .u16 c) ∧ e.val = .int .u8 (vq e : Int)) := KQ.2
  have KS : Hid (Stm es clock) := hs
  have HB : Hid (w.heap[m]? = some (.map es clock)) := hb
  clear KQ he hs h RL hR
  go_enter Try.func19, Try.ntmps19
  go_wp2_with (at_range; refine wpList_range_m rfl _ rfl m es clock rfl hb ?_)
  go_frame
  clear hb k2
  go_loopw [3] (fun v wr => ∃ (s : Nat) (seen : Array Nat), v = .int .u8 (s : Int) ∧ Hid (s < 256 ∧ s ||| regN ((leftOf es seen).toList.map vq) = R ∧ wr.heap[w.heap.size]? = some (.mapIter (some m) clock seen clock) ∧ Below w.heap.size w wr ∧ w.heap.size + 1 ≤ wr.heap.size))
    (fun _ wr => wr.rangeLeft m w.heap.size)
  case atStart => exact ⟨0, #[], rfl, by decide, by rw [left_all, HN.out]; simp, heap_new _ _, (by repeat (first | exact Below.refl _ _ | apply Below.drew | apply Below.al)), by simp⟩
  case round =>
    obtain ⟨s, seen, rfl, H⟩ := hrel
    have hr := H.out.2.2.1
    have hb' : wr.heap[m]? = some (.map es clock) := (H.out.2.2.2.1.block m lm).trans HB.out
    go_wp2_with (first | (at_next; refine wpList_next_m rfl _ rfl m w.heap.size clock seen es rfl hr hb' KS.out (by omega) ?_ ?_) | go_in)
    · intro h0
      have HE : Hid (s = R) := by
        have := H.out.2.1
        rw [h0] at this
        show _ = _
        simpa [regN] using this
      have BB : Hid (Below w.heap.size w wr) := H.out.2.2.2.1
      go_wp2_with fail
      go_ret
      exact ⟨ret_int (by rw [HE.out]), BB.out⟩
    · intro e w1 hmem hes hsz1 hkp hr1 hen
      have hes' : e ∈ es.toList := by simpa using hes
      obtain ⟨⟨kc, ek⟩, ev⟩ := K2.out e hes'
      obtain ⟨y, hy⟩ : ∃ y, Hid (y = vq e) := ⟨_, rfl⟩
      rw [ek, ev, ← hy.out] at hen ⊢
      have y1 : Hid (y < 256) := by show _ < _; rw [hy.out]; exact HV.out e hes'
      have o1 : bits .or .u8 1 (y : Int) = ((1 ||| y : Nat) : Int) := u8or 1 y (by decide) y1.out
      have o2 : bits .or .u8 (s : Int) ((1 ||| y : Nat) : Int) = ((s ||| (1 ||| y) : Nat) : Int) := u8or s _ H.out.1 (or_lt (by decide) y1.out)
      have N1 : Hid (s ||| (1 ||| y) < 256) := or_lt H.out.1 (or_lt (by decide) y1.out)
      have HK : Hid (e ∈ (leftOf es seen).toList) := by show _ ∈ _; simpa using hmem
      have PL := left_push KS.out.2 HK.out
      have RG : Hid ((s ||| (1 ||| y)) ||| regN ((leftOf es (seen.push e.born)).toList.map vq) = R) := by
        show _ = _
        rw [← H.out.2.1, regN_perm (PL.map vq), List.map_cons, regN, ← hy.out, Nat.or_assoc]
      have ML : Hid ((leftOf es (seen.push e.born)).size < (leftOf es seen).size) := by
        have := PL.length_eq
        simp at this
        show _ < _
        omega
      have E2 : Hid (w1.heap[w.heap.size]? = some (.mapIter (some m) clock (seen.push e.born) clock)) := hr1
      have E5 : Hid (Below w.heap.size w w1) := Kp.below H.out.2.2.2.1 hkp (by have := H.out.2.2.2.1.size; omega) (by simp)
      have E4 : Hid (w1.heap.size = wr.heap.size) := hsz1
      have hm9 : Hid (w1.heap[m]? = some (.map es clock)) := (E5.out.block m lm).trans HB.out
      have HRr : Hid (wr.heap[w.heap.size]? = some (.mapIter (some m) clock seen clock)) := hr
      have HBr : Hid (wr.heap[m]? = some (.map es clock)) := hb'
      obtain ⟨s2, hs2⟩ : ∃ s2, s2 = s ||| (1 ||| y) := ⟨_, rfl⟩
      obtain ⟨y2, hy2⟩ : ∃ y2, y2 = 1 ||| y := ⟨_, rfl⟩
      rw [← hs2] at N1 RG o2
      rw [← hy2] at o1 o2
      clear hmem hes hes' hkp hr1 ek ev hsz1 PL hs2 hy2 hb' hr
      go_wp2_with fail
      refine ⟨⟨s2, seen.push e.born, rfl, N1.out, RG.out, E2.out, E5.out, by have := E4.out; have := H.out.2.2.2.2; omega⟩, ?_⟩
      simp only [World.rangeLeft, hm9.out, E2.out, HBr.out, HRr.out]
      exact ML.out
#print axioms new_ok
#print axioms register_any
end Go.Proofs.Ytnbdnmfnmnboiaa
