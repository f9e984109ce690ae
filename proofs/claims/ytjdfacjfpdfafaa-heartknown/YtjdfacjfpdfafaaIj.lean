/-
  HeartKnown.
-/
import Derived.Test.YtjdfacjfpdfafaaIi
import Derived.Test.YtjdfacjfpdfafaaId
import Derived.Test.YtjdfacjfpdfafaaIf
namespace Go.Proofs.Ytjdfacjfpdfafaa
open Go.RowKit

theorem flat_get {α : Type} (F : α → List Value) (n : Nat) (hF : ∀ x, (F x).length = n) : ∀ (l : List α) (i : Nat) (x : α) (j : Nat), l[i]? = some x → j < n → (l.flatMap F)[i * n + j]? = (F x)[j]?
  | [], i, x, j, h, _ => by simp at h
  | y :: l, 0, x, j, h, hj => by
    simp at h
    subst h
    rw [List.flatMap_cons, Nat.zero_mul, Nat.zero_add, List.getElem?_append_left (by rw [hF]; exact hj)]
  | y :: l, i + 1, x, j, h, hj => by
    rw [List.flatMap_cons, List.getElem?_append_right (by rw [hF, Nat.add_mul]; omega), hF, show (i + 1) * n + j - n = i * n + j from by rw [Nat.add_mul]; omega]
    exact flat_get F n hF l i x j (by simpa using h) hj
theorem isOx_lit {w : World} {B : Nat} {l : List Ox} {T : TypeId} (h : w.heap[B]? = some (.cells (l.flatMap Ox.C).toArray T (0, 0))) (hg : ∀ x ∈ l, x.Ok) : IsOx w (some ⟨B, 0, none⟩) l.length l :=
  ⟨rfl, hg, fun _ => ⟨B, 0, rfl, fun i x hx j v hv => by
    have hj : j < 16 := (List.getElem?_eq_some_iff.1 hv).1
    rw [cell_of_row w B _ _ _ _ h, Nat.zero_add]
    simp only [List.getElem?_toArray]
    rw [flat_get Ox.C 16 (fun _ => rfl) l i x j hx hj, hv]⟩⟩
theorem isBx_lit {w : World} {B : Nat} {l : List Bx} {T : TypeId} (h : w.heap[B]? = some (.cells (l.flatMap Bx.C).toArray T (0, 0))) (hg : ∀ x ∈ l, x.Ok) : IsBx w (some ⟨B, 0, none⟩) l.length l :=
  ⟨rfl, hg, fun _ => ⟨B, 0, rfl, fun i x hx j v hv => by
    have hj : j < 4 := (List.getElem?_eq_some_iff.1 hv).1
    rw [cell_of_row w B _ _ _ _ h, Nat.zero_add]
    simp only [List.getElem?_toArray]
    rw [flat_get Bx.C 4 (fun _ => rfl) l i x j hx hj, hv]⟩⟩
def zF : Hx := ⟨0, 0, 0, 0, 0, 0, 0, 0, 0, 0, false, 0⟩
/-- The chapter's rows at a time. -/
def L7 (t : Int) : List Ox := [⟨0, 1, 0, 1099511627776, 0, zF⟩, ⟨0, 2, 0, 1, 0, zF⟩, ⟨2, 1, 5, 0, t, zF⟩, ⟨2, 2, 5, 0, t, zF⟩, ⟨6, 0, 0, 0, t, zF⟩, ⟨6, 0, 0, 0, 1099511627776, zF⟩, ⟨6, 0, 0, 0, 9223372036854775807, zF⟩]
def L4 (t : Int) : List Bx := [⟨0, t, t, 0⟩, ⟨1, 0, t, 5⟩, ⟨0, 1099511627776, 1099511627776, 0⟩, ⟨1, 0, 1099511627776, 5⟩]
theorem zF_ok : Oct [zF.d0, zF.d1, zF.d2, zF.d3, zF.d4, zF.d5, zF.d6, zF.d7] ∧ 0 ≤ zF.i ∧ zF.i < 65536 := ⟨fun n hn => by simp [zF] at hn; subst hn; decide, by decide, by decide⟩
theorem L7_ok (t : Int) : ∀ x ∈ L7 t, x.Ok := by
  intro x hx
  simp only [L7, List.mem_cons, List.not_mem_nil, or_false] at hx
  rcases hx with rfl | rfl | rfl | rfl | rfl | rfl | rfl <;> exact ⟨by dsimp only; omega, by dsimp only; omega, by dsimp only; omega, zF_ok⟩
theorem L4_ok (t : Int) : ∀ x ∈ L4 t, x.Ok := by
  intro x hx
  simp only [L4, List.mem_cons, List.not_mem_nil, or_false] at hx
  rcases hx with rfl | rfl | rfl | rfl <;> exact ⟨by dsimp only; omega, by dsimp only; omega⟩
set_option linter.unusedSimpArgs false in
set_option maxHeartbeats 40000000 in
set_option maxRecDepth 100000 in
theorem heartKnown_any (w : World) : Calls Try.prog 7 #[] w fun e w' => e = .returned (.bool true) ∧ Below w.heap.size w w' := by
  have NB := fun W => newB_ok 5 (by decide) W
  have BE : Hid (∀ (s : Int) W, Calls Try.prog 27 #[.int .u8 5, .int .u8 s] W fun e w' => e = .returned (frV 1797 1 s 0 0 0 0 0 0 0 false) ∧ Below W.heap.size W w') := fun s W => rbeat_any 5 s (by decide) W
  have BE6 : Hid (∀ W, Calls Try.prog 27 #[.int .u8 6, .int .u8 5] W fun e w' => e = .returned (frV 1798 1 5 0 0 0 0 0 0 0 false) ∧ Below W.heap.size W w') := fun W => rbeat_any 6 5 (by decide) W
  go_enter Try.func7, Try.ntmps7
  go_wp2_with fail
  refine (NB _).mono ?_
  rintro e w1 ⟨rfl, rfl⟩
  have HBv0 : Hid ((w.alloc (.cells (bC 5 0 0) 76)).heap[w.heap.size]? = some (.cells (bC 5 0 0) 76 (0, 0))) := at11 _ _ _ rfl
  have Bv0 : Below w.heap.size w (w.alloc (.cells (bC 5 0 0) 76)) := (by repeat (first | exact Below.refl _ _ | apply Below.drew | apply Below.al))
  obtain ⟨pb, hpb⟩ : ∃ pb, pb = w.heap.size := ⟨_, rfl⟩
  have LB : Hid (w.heap.size ≤ pb) := by show _ ≤ _; omega
  rw [← hpb] at HBv0 ⊢
  clear hpb
  generalize hv0 : (w.alloc (.cells (bC 5 0 0) 76) : World) = v0 at HBv0 Bv0 ⊢
  clear hv0 NB
  go_wp2_with fail
  refine Calls.mono (setB_ok HBv0.out 10 3 (by decide) (by decide)) ?_
  rintro e v1 ⟨rfl, hv1, kv1⟩
  have Bv1 : Below w.heap.size w v1 := Kp.below Bv0 kv1 Bv0.size (by intro j hj; have := LB.out; simp at hj; omega)
  have HBv1 : Hid (v1.heap[pb]? = some (.cells (bC 5 10 3) 76 (0, 0))) := hv1
  clear HBv0 hv1 kv1 Bv0
  go_wp2_with fail
  refine Calls.mono (tickB_no HBv1.out 2 5 (by right; right; left; decide)) ?_
  rintro e v3 ⟨rfl, bv3⟩
  have Bv3 : Below w.heap.size w v3 := Below.andThen Bv1 bv3
  have HBv3 : Hid (v3.heap[pb]? = some (.cells (bC 5 10 3) 76 (0, 0))) := blk11 bv3 HBv1.out
  clear HBv1
  clear bv3 Bv1
  go_wp2_with fail
  have bv4 : Below v3.heap.size v3 (v3.alloc (.cells (frC 0 0 0 0 0 0 0 0 0 0 false) 37)) := Below.al (Below.refl _ _) _
  have Bv4 : Below w.heap.size w (v3.alloc (.cells (frC 0 0 0 0 0 0 0 0 0 0 false) 37)) := Below.andThen Bv3 bv4
  have HBv4 : Hid ((v3.alloc (.cells (frC 0 0 0 0 0 0 0 0 0 0 false) 37)).heap[pb]? = some (.cells (bC 5 10 3) 76 (0, 0))) := blk11 bv4 HBv3.out
  clear HBv3
  clear bv4 Bv3
  generalize hzv4 : ((v3.alloc (.cells (frC 0 0 0 0 0 0 0 0 0 0 false) 37)) : World) = v4 at Bv4 HBv4 ⊢
  clear hzv4
  go_wp2_with fail
  refine Calls.mono (tickB_no HBv4.out 7 6 (by right; right; right; decide)) ?_
  rintro e v6 ⟨rfl, bv6⟩
  have Bv6 : Below w.heap.size w v6 := Below.andThen Bv4 bv6
  have HBv6 : Hid (v6.heap[pb]? = some (.cells (bC 5 10 3) 76 (0, 0))) := blk11 bv6 HBv4.out
  clear HBv4
  clear bv6 Bv4
  go_wp2_with fail
  have bv7 : Below v6.heap.size v6 (v6.alloc (.cells (frC 0 0 0 0 0 0 0 0 0 0 false) 37)) := Below.al (Below.refl _ _) _
  have Bv7 : Below w.heap.size w (v6.alloc (.cells (frC 0 0 0 0 0 0 0 0 0 0 false) 37)) := Below.andThen Bv6 bv7
  have HBv7 : Hid ((v6.alloc (.cells (frC 0 0 0 0 0 0 0 0 0 0 false) 37)).heap[pb]? = some (.cells (bC 5 10 3) 76 (0, 0))) := blk11 bv7 HBv6.out
  clear HBv6
  clear bv7 Bv6
  generalize hzv7 : ((v6.alloc (.cells (frC 0 0 0 0 0 0 0 0 0 0 false) 37)) : World) = v7 at Bv7 HBv7 ⊢
  clear hzv7
  go_wp2_with fail
  refine Calls.mono (tickB_ok HBv7.out 7 5 (by decide) (by decide) (by decide) (by decide) (by decide) (by decide) (by decide)) ?_
  rintro e v8 ⟨rfl, hv8, kv8⟩
  have Bv8 : Below w.heap.size w v8 := Kp.below Bv7 kv8 Bv7.size (by intro j hj; have := LB.out; simp at hj; omega)
  have HBv8 : Hid (v8.heap[pb]? = some (.cells (bC 5 10 17) 76 (0, 0))) := hv8
  clear HBv7 hv8 kv8 Bv7
  go_wp2_with fail
  have bv9 : Below v8.heap.size v8 (v8.alloc (.cells (frC 1797 1 5 0 0 0 0 0 0 0 false) 37)) := Below.al (Below.refl _ _) _
  have Bv9 : Below w.heap.size w (v8.alloc (.cells (frC 1797 1 5 0 0 0 0 0 0 0 false) 37)) := Below.andThen Bv8 bv9
  have HBv9 : Hid ((v8.alloc (.cells (frC 1797 1 5 0 0 0 0 0 0 0 false) 37)).heap[pb]? = some (.cells (bC 5 10 17) 76 (0, 0))) := blk11 bv9 HBv8.out
  clear HBv8
  clear bv9 Bv8
  generalize hzv9 : ((v8.alloc (.cells (frC 1797 1 5 0 0 0 0 0 0 0 false) 37)) : World) = v9 at Bv9 HBv9 ⊢
  clear hzv9
  go_wp2_with fail
  refine Calls.mono (due_yes HBv9.out (by decide)) ?_
  rintro e v10 ⟨rfl, rfl⟩
  obtain ⟨v9, rfl⟩ : ∃ z, z = v10 := ⟨_, rfl⟩
  go_wp2_with fail
  refine Calls.mono (setB_ok HBv9.out 0 5 (by decide) (by decide)) ?_
  rintro e v11 ⟨rfl, hv11, kv11⟩
  have Bv11 : Below w.heap.size w v11 := Kp.below Bv9 kv11 Bv9.size (by intro j hj; have := LB.out; simp at hj; omega)
  have HBv11 : Hid (v11.heap[pb]? = some (.cells (bC 5 0 5) 76 (0, 0))) := hv11
  clear HBv9 hv11 kv11 Bv9
  go_wp2_with fail
  refine Calls.mono (setB_no pb (-1) 5 (.inl (by decide)) _) ?_
  rintro e v12 ⟨rfl, rfl⟩
  obtain ⟨v11, rfl⟩ : ∃ z, z = v12 := ⟨_, rfl⟩
  go_wp2_with fail
  refine Calls.mono (setB_no pb 5 1099511627777 (.inr (by decide)) _) ?_
  rintro e v13 ⟨rfl, rfl⟩
  obtain ⟨v11, rfl⟩ : ∃ z, z = v13 := ⟨_, rfl⟩
  go_wp2_with fail
  refine Calls.mono (due_no HBv11.out) ?_
  rintro e v14 ⟨rfl, rfl⟩
  obtain ⟨v11, rfl⟩ : ∃ z, z = v14 := ⟨_, rfl⟩
  go_wp2_with fail
  refine Calls.mono (newW_any _) ?_
  rintro e v15 ⟨rfl, hv15, bv15⟩
  obtain ⟨p, hp⟩ : ∃ p, p = v11.heap.size := ⟨_, rfl⟩
  rw [← hp] at hv15 ⊢
  have Bv15 : Below w.heap.size w v15 := Below.andThen Bv11 bv15
  have LP : Hid (w.heap.size ≤ p) := by show _ ≤ _; rw [hp]; exact Bv11.size
  have LWv15 : p ≤ v15.heap.size := by rw [hp]; exact bv15.size
  have HBv15 : Hid (v15.heap[pb]? = some (.cells (bC 5 0 5) 76 (0, 0))) := blk11 bv15 HBv11.out
  have IWv15 : Hid (∃ P, IsW v15 p p P (noneS)) := ⟨_, hv15⟩
  clear HBv11 Bv11 hv15 bv15 hp
  obtain ⟨Pv16, h0v16⟩ := IWv15.out
  have SE := set_any h0v16 LWv15 5 20 (by decide)
  rw [show (5 : Int) = ((5 : Nat) : Int) from rfl, setL_ok (setC_one (k := 5) (by decide) (W := 20) (by decide) (by decide)), (setC_one (k := 5) (by decide) (W := 20) (by decide) (by decide))] at SE
  have SEH : Hid _ := SE
  clear SE
  go_wp2_with fail
  refine Calls.mono (SEH.out) ?_
  rintro e v16 ⟨rfl, hv16, kv16⟩
  have Bv16 : Below w.heap.size w v16 := Kt.up Bv15 kv16 LP.out Bv15.size
  have HBv16 : Hid (v16.heap[pb]? = some (.cells (bC 5 0 5) 76 (0, 0))) := kv16.typ _ _ _ _ HBv15.out (by decide) (by decide)
  clear HBv15
  have IWv16 : Hid (∃ P, IsW v16 p p P (one 5 (fresh 20))) := hv16
  have LWv16 : p ≤ v16.heap.size := Nat.le_trans LWv15 kv16.size
  clear IWv15 LWv15 kv16 Bv15
  clear SEH
  go_wp2_with fail
  refine Calls.mono (BE.out 0 _) ?_
  rintro e v17 ⟨rfl, bv17⟩
  have Bv17 : Below w.heap.size w v17 := Below.andThen Bv16 bv17
  have HBv17 : Hid (v17.heap[pb]? = some (.cells (bC 5 0 5) 76 (0, 0))) := blk11 bv17 HBv16.out
  clear HBv16
  have IWv17 : Hid (∃ P, IsW v17 p p P (one 5 (fresh 20))) := IWv16.out.elim fun P h => ⟨P, h.next bv17⟩
  have LWv17 : p ≤ v17.heap.size := Nat.le_trans LWv16 bv17.size
  clear IWv16 LWv16
  clear bv17 Bv16
  obtain ⟨Pv18, h0v18⟩ := IWv17.out
  have HE := hear_5 h0v18 (by decide) 0 (by decide) 1 (by decide)
  rw [show newsK (fresh 20) 0 = 1 from by decide, if_neg (by decide)] at HE
  simp only [eoV] at HE
  have HEH : Hid _ := HE
  clear HE
  go_wp2_with fail
  refine Calls.mono (HEH.out) ?_
  rintro e v18 ⟨rfl, hv18, kv18⟩
  have Bv18 : Below w.heap.size w v18 := Kt.up Bv17 kv18 LP.out Bv17.size
  have HBv18 : Hid (v18.heap[pb]? = some (.cells (bC 5 0 5) 76 (0, 0))) := kv18.typ _ _ _ _ HBv17.out (by decide) (by decide)
  clear HBv17
  have IWv18 : Hid (∃ P, IsW v18 p p P (one 5 nA)) := hv18
  have LWv18 : p ≤ v18.heap.size := Nat.le_trans LWv17 kv18.size
  clear IWv17 LWv17 kv18 Bv17
  clear HEH
  go_wp2_with fail
  have bv19 : Below v18.heap.size v18 (v18.alloc (.cells (evA 5 1 0) 54)) := Below.al (Below.refl _ _) _
  have Bv19 : Below w.heap.size w (v18.alloc (.cells (evA 5 1 0) 54)) := Below.andThen Bv18 bv19
  have HBv19 : Hid ((v18.alloc (.cells (evA 5 1 0) 54)).heap[pb]? = some (.cells (bC 5 0 5) 76 (0, 0))) := blk11 bv19 HBv18.out
  clear HBv18
  have IWv19 : Hid (∃ P, IsW (v18.alloc (.cells (evA 5 1 0) 54)) p p P (one 5 nA)) := IWv18.out.elim fun P h => ⟨P, h.next bv19⟩
  have LWv19 : p ≤ (v18.alloc (.cells (evA 5 1 0) 54)).heap.size := Nat.le_trans LWv18 bv19.size
  clear IWv18 LWv18
  have XxAv19 : Hid ((v18.alloc (.cells (evA 5 1 0) 54)).heap[v18.heap.size]? = some (.cells (evA 5 1 0) 54 (0, 0))) := at11 _ _ _ rfl
  obtain ⟨xA, hxA⟩ : ∃ b, b = v18.heap.size := ⟨_, rfl⟩
  rw [← hxA] at XxAv19 ⊢
  clear hxA
  clear bv19 Bv18
  generalize hzv19 : ((v18.alloc (.cells (evA 5 1 0) 54)) : World) = v19 at Bv19 HBv19 IWv19 LWv19 XxAv19 ⊢
  clear hzv19
  go_wp2_with fail
  refine Calls.mono (BE.out 127 _) ?_
  rintro e v20 ⟨rfl, bv20⟩
  have Bv20 : Below w.heap.size w v20 := Below.andThen Bv19 bv20
  have XxAv20 : Hid (v20.heap[xA]? = some (.cells (evA 5 1 0) 54 (0, 0))) := blk11 bv20 XxAv19.out
  clear XxAv19
  have HBv20 : Hid (v20.heap[pb]? = some (.cells (bC 5 0 5) 76 (0, 0))) := blk11 bv20 HBv19.out
  clear HBv19
  have IWv20 : Hid (∃ P, IsW v20 p p P (one 5 nA)) := IWv19.out.elim fun P h => ⟨P, h.next bv20⟩
  have LWv20 : p ≤ v20.heap.size := Nat.le_trans LWv19 bv20.size
  clear IWv19 LWv19
  clear bv20 Bv19
  obtain ⟨Pv21, h0v21⟩ := IWv20.out
  have HE := hear_5 h0v21 (by decide) 127 (by decide) 4 (by decide)
  rw [show newsK nA 127 = 2 from by decide, if_neg (by decide)] at HE
  simp only [eoV] at HE
  have HEH : Hid _ := HE
  clear HE
  go_wp2_with fail
  refine Calls.mono (HEH.out) ?_
  rintro e v21 ⟨rfl, hv21, kv21⟩
  have Bv21 : Below w.heap.size w v21 := Kt.up Bv20 kv21 LP.out Bv20.size
  have XxAv21 : Hid (v21.heap[xA]? = some (.cells (evA 5 1 0) 54 (0, 0))) := kv21.typ _ _ _ _ XxAv20.out (by decide) (by decide)
  clear XxAv20
  have HBv21 : Hid (v21.heap[pb]? = some (.cells (bC 5 0 5) 76 (0, 0))) := kv21.typ _ _ _ _ HBv20.out (by decide) (by decide)
  clear HBv20
  have IWv21 : Hid (∃ P, IsW v21 p p P (one 5 nB)) := hv21
  have LWv21 : p ≤ v21.heap.size := Nat.le_trans LWv20 kv21.size
  clear IWv20 LWv20 kv21 Bv20
  clear HEH
  go_wp2_with fail
  have bv22 : Below v21.heap.size v21 (v21.alloc (.cells (evA 5 2 127) 54)) := Below.al (Below.refl _ _) _
  have Bv22 : Below w.heap.size w (v21.alloc (.cells (evA 5 2 127) 54)) := Below.andThen Bv21 bv22
  have XxAv22 : Hid ((v21.alloc (.cells (evA 5 2 127) 54)).heap[xA]? = some (.cells (evA 5 1 0) 54 (0, 0))) := blk11 bv22 XxAv21.out
  clear XxAv21
  have HBv22 : Hid ((v21.alloc (.cells (evA 5 2 127) 54)).heap[pb]? = some (.cells (bC 5 0 5) 76 (0, 0))) := blk11 bv22 HBv21.out
  clear HBv21
  have IWv22 : Hid (∃ P, IsW (v21.alloc (.cells (evA 5 2 127) 54)) p p P (one 5 nB)) := IWv21.out.elim fun P h => ⟨P, h.next bv22⟩
  have LWv22 : p ≤ (v21.alloc (.cells (evA 5 2 127) 54)).heap.size := Nat.le_trans LWv21 bv22.size
  clear IWv21 LWv21
  have XxBv22 : Hid ((v21.alloc (.cells (evA 5 2 127) 54)).heap[v21.heap.size]? = some (.cells (evA 5 2 127) 54 (0, 0))) := at11 _ _ _ rfl
  obtain ⟨xB, hxB⟩ : ∃ b, b = v21.heap.size := ⟨_, rfl⟩
  rw [← hxB] at XxBv22 ⊢
  clear hxB
  clear bv22 Bv21
  generalize hzv22 : ((v21.alloc (.cells (evA 5 2 127) 54)) : World) = v22 at Bv22 XxAv22 HBv22 IWv22 LWv22 XxBv22 ⊢
  clear hzv22
  go_wp2_with fail
  refine Calls.mono (BE.out 127 _) ?_
  rintro e v23 ⟨rfl, bv23⟩
  have Bv23 : Below w.heap.size w v23 := Below.andThen Bv22 bv23
  have XxAv23 : Hid (v23.heap[xA]? = some (.cells (evA 5 1 0) 54 (0, 0))) := blk11 bv23 XxAv22.out
  clear XxAv22
  have XxBv23 : Hid (v23.heap[xB]? = some (.cells (evA 5 2 127) 54 (0, 0))) := blk11 bv23 XxBv22.out
  clear XxBv22
  have HBv23 : Hid (v23.heap[pb]? = some (.cells (bC 5 0 5) 76 (0, 0))) := blk11 bv23 HBv22.out
  clear HBv22
  have IWv23 : Hid (∃ P, IsW v23 p p P (one 5 nB)) := IWv22.out.elim fun P h => ⟨P, h.next bv23⟩
  have LWv23 : p ≤ v23.heap.size := Nat.le_trans LWv22 bv23.size
  clear IWv22 LWv22
  clear bv23 Bv22
  obtain ⟨Pv24, h0v24⟩ := IWv23.out
  have HE := hear_5 h0v24 (by decide) 127 (by decide) 9 (by decide)
  rw [show newsK nB 127 = 0 from by decide, if_pos rfl] at HE
  simp only [eoV] at HE
  have HEH : Hid _ := HE
  clear HE
  go_wp2_with fail
  refine Calls.mono (HEH.out) ?_
  rintro e v24 ⟨rfl, hv24, kv24⟩
  have Bv24 : Below w.heap.size w v24 := Kt.up Bv23 kv24 LP.out Bv23.size
  have XxAv24 : Hid (v24.heap[xA]? = some (.cells (evA 5 1 0) 54 (0, 0))) := kv24.typ _ _ _ _ XxAv23.out (by decide) (by decide)
  clear XxAv23
  have XxBv24 : Hid (v24.heap[xB]? = some (.cells (evA 5 2 127) 54 (0, 0))) := kv24.typ _ _ _ _ XxBv23.out (by decide) (by decide)
  clear XxBv23
  have HBv24 : Hid (v24.heap[pb]? = some (.cells (bC 5 0 5) 76 (0, 0))) := kv24.typ _ _ _ _ HBv23.out (by decide) (by decide)
  clear HBv23
  have IWv24 : Hid (∃ P, IsW v24 p p P (one 5 nC)) := hv24
  have LWv24 : p ≤ v24.heap.size := Nat.le_trans LWv23 kv24.size
  clear IWv23 LWv23 kv24 Bv23
  clear HEH
  go_wp2_with fail
  have bv25 : Below v24.heap.size v24 (v24.alloc (.cells (evA 0 0 0) 54)) := Below.al (Below.refl _ _) _
  have Bv25 : Below w.heap.size w (v24.alloc (.cells (evA 0 0 0) 54)) := Below.andThen Bv24 bv25
  have XxAv25 : Hid ((v24.alloc (.cells (evA 0 0 0) 54)).heap[xA]? = some (.cells (evA 5 1 0) 54 (0, 0))) := blk11 bv25 XxAv24.out
  clear XxAv24
  have XxBv25 : Hid ((v24.alloc (.cells (evA 0 0 0) 54)).heap[xB]? = some (.cells (evA 5 2 127) 54 (0, 0))) := blk11 bv25 XxBv24.out
  clear XxBv24
  have HBv25 : Hid ((v24.alloc (.cells (evA 0 0 0) 54)).heap[pb]? = some (.cells (bC 5 0 5) 76 (0, 0))) := blk11 bv25 HBv24.out
  clear HBv24
  have IWv25 : Hid (∃ P, IsW (v24.alloc (.cells (evA 0 0 0) 54)) p p P (one 5 nC)) := IWv24.out.elim fun P h => ⟨P, h.next bv25⟩
  have LWv25 : p ≤ (v24.alloc (.cells (evA 0 0 0) 54)).heap.size := Nat.le_trans LWv24 bv25.size
  clear IWv24 LWv24
  clear bv25 Bv24
  generalize hzv25 : ((v24.alloc (.cells (evA 0 0 0) 54)) : World) = v25 at Bv25 XxAv25 XxBv25 HBv25 IWv25 LWv25 ⊢
  clear hzv25
  go_wp2_with fail
  refine Calls.mono (BE.out 5 _) ?_
  rintro e v26 ⟨rfl, bv26⟩
  have Bv26 : Below w.heap.size w v26 := Below.andThen Bv25 bv26
  have XxAv26 : Hid (v26.heap[xA]? = some (.cells (evA 5 1 0) 54 (0, 0))) := blk11 bv26 XxAv25.out
  clear XxAv25
  have XxBv26 : Hid (v26.heap[xB]? = some (.cells (evA 5 2 127) 54 (0, 0))) := blk11 bv26 XxBv25.out
  clear XxBv25
  have HBv26 : Hid (v26.heap[pb]? = some (.cells (bC 5 0 5) 76 (0, 0))) := blk11 bv26 HBv25.out
  clear HBv25
  have IWv26 : Hid (∃ P, IsW v26 p p P (one 5 nC)) := IWv25.out.elim fun P h => ⟨P, h.next bv26⟩
  have LWv26 : p ≤ v26.heap.size := Nat.le_trans LWv25 bv26.size
  clear IWv25 LWv25
  clear bv26 Bv25
  obtain ⟨Pv27, h0v27⟩ := IWv26.out
  have HE := hear_5 h0v27 (by decide) 5 (by decide) 12 (by decide)
  rw [show newsK nC 5 = 2 from by decide, if_neg (by decide)] at HE
  simp only [eoV] at HE
  have HEH : Hid _ := HE
  clear HE
  go_wp2_with fail
  refine Calls.mono (HEH.out) ?_
  rintro e v27 ⟨rfl, hv27, kv27⟩
  have Bv27 : Below w.heap.size w v27 := Kt.up Bv26 kv27 LP.out Bv26.size
  have XxAv27 : Hid (v27.heap[xA]? = some (.cells (evA 5 1 0) 54 (0, 0))) := kv27.typ _ _ _ _ XxAv26.out (by decide) (by decide)
  clear XxAv26
  have XxBv27 : Hid (v27.heap[xB]? = some (.cells (evA 5 2 127) 54 (0, 0))) := kv27.typ _ _ _ _ XxBv26.out (by decide) (by decide)
  clear XxBv26
  have HBv27 : Hid (v27.heap[pb]? = some (.cells (bC 5 0 5) 76 (0, 0))) := kv27.typ _ _ _ _ HBv26.out (by decide) (by decide)
  clear HBv26
  have IWv27 : Hid (∃ P, IsW v27 p p P (one 5 nD)) := hv27
  have LWv27 : p ≤ v27.heap.size := Nat.le_trans LWv26 kv27.size
  clear IWv26 LWv26 kv27 Bv26
  clear HEH
  go_wp2_with fail
  have bv28 : Below v27.heap.size v27 (v27.alloc (.cells (evA 5 2 5) 54)) := Below.al (Below.refl _ _) _
  have Bv28 : Below w.heap.size w (v27.alloc (.cells (evA 5 2 5) 54)) := Below.andThen Bv27 bv28
  have XxAv28 : Hid ((v27.alloc (.cells (evA 5 2 5) 54)).heap[xA]? = some (.cells (evA 5 1 0) 54 (0, 0))) := blk11 bv28 XxAv27.out
  clear XxAv27
  have XxBv28 : Hid ((v27.alloc (.cells (evA 5 2 5) 54)).heap[xB]? = some (.cells (evA 5 2 127) 54 (0, 0))) := blk11 bv28 XxBv27.out
  clear XxBv27
  have HBv28 : Hid ((v27.alloc (.cells (evA 5 2 5) 54)).heap[pb]? = some (.cells (bC 5 0 5) 76 (0, 0))) := blk11 bv28 HBv27.out
  clear HBv27
  have IWv28 : Hid (∃ P, IsW (v27.alloc (.cells (evA 5 2 5) 54)) p p P (one 5 nD)) := IWv27.out.elim fun P h => ⟨P, h.next bv28⟩
  have LWv28 : p ≤ (v27.alloc (.cells (evA 5 2 5) 54)).heap.size := Nat.le_trans LWv27 bv28.size
  clear IWv27 LWv27
  have XxDv28 : Hid ((v27.alloc (.cells (evA 5 2 5) 54)).heap[v27.heap.size]? = some (.cells (evA 5 2 5) 54 (0, 0))) := at11 _ _ _ rfl
  obtain ⟨xD, hxD⟩ : ∃ b, b = v27.heap.size := ⟨_, rfl⟩
  rw [← hxD] at XxDv28 ⊢
  clear hxD
  clear bv28 Bv27
  generalize hzv28 : ((v27.alloc (.cells (evA 5 2 5) 54)) : World) = v28 at Bv28 XxAv28 XxBv28 HBv28 IWv28 LWv28 XxDv28 ⊢
  clear hzv28
  go_wp2_with fail
  refine Calls.mono (BE.out 0 _) ?_
  rintro e v29 ⟨rfl, bv29⟩
  have Bv29 : Below w.heap.size w v29 := Below.andThen Bv28 bv29
  have XxAv29 : Hid (v29.heap[xA]? = some (.cells (evA 5 1 0) 54 (0, 0))) := blk11 bv29 XxAv28.out
  clear XxAv28
  have XxBv29 : Hid (v29.heap[xB]? = some (.cells (evA 5 2 127) 54 (0, 0))) := blk11 bv29 XxBv28.out
  clear XxBv28
  have XxDv29 : Hid (v29.heap[xD]? = some (.cells (evA 5 2 5) 54 (0, 0))) := blk11 bv29 XxDv28.out
  clear XxDv28
  have HBv29 : Hid (v29.heap[pb]? = some (.cells (bC 5 0 5) 76 (0, 0))) := blk11 bv29 HBv28.out
  clear HBv28
  have IWv29 : Hid (∃ P, IsW v29 p p P (one 5 nD)) := IWv28.out.elim fun P h => ⟨P, h.next bv29⟩
  have LWv29 : p ≤ v29.heap.size := Nat.le_trans LWv28 bv29.size
  clear IWv28 LWv28
  clear bv29 Bv28
  obtain ⟨Pv30, h0v30⟩ := IWv29.out
  have HE := hear_5 h0v30 (by decide) 0 (by decide) 12 (by decide)
  rw [show newsK nD 0 = 3 from by decide, if_neg (by decide)] at HE
  simp only [eoV] at HE
  have HEH : Hid _ := HE
  clear HE
  go_wp2_with fail
  refine Calls.mono (HEH.out) ?_
  rintro e v30 ⟨rfl, hv30, kv30⟩
  have Bv30 : Below w.heap.size w v30 := Kt.up Bv29 kv30 LP.out Bv29.size
  have XxAv30 : Hid (v30.heap[xA]? = some (.cells (evA 5 1 0) 54 (0, 0))) := kv30.typ _ _ _ _ XxAv29.out (by decide) (by decide)
  clear XxAv29
  have XxBv30 : Hid (v30.heap[xB]? = some (.cells (evA 5 2 127) 54 (0, 0))) := kv30.typ _ _ _ _ XxBv29.out (by decide) (by decide)
  clear XxBv29
  have XxDv30 : Hid (v30.heap[xD]? = some (.cells (evA 5 2 5) 54 (0, 0))) := kv30.typ _ _ _ _ XxDv29.out (by decide) (by decide)
  clear XxDv29
  have HBv30 : Hid (v30.heap[pb]? = some (.cells (bC 5 0 5) 76 (0, 0))) := kv30.typ _ _ _ _ HBv29.out (by decide) (by decide)
  clear HBv29
  have IWv30 : Hid (∃ P, IsW v30 p p P (one 5 nE)) := hv30
  have LWv30 : p ≤ v30.heap.size := Nat.le_trans LWv29 kv30.size
  clear IWv29 LWv29 kv30 Bv29
  clear HEH
  have cxA0 : v30.cell? ⟨xA, 0, none⟩ = some (.int .u8 5) := by rw [cell_of_row _ _ 0 _ _ _ XxAv30.out]; rfl
  have cxA1 : v30.cell? ⟨xA, 1, none⟩ = some (.int .u8 1) := by rw [cell_of_row _ _ 1 _ _ _ XxAv30.out]; rfl
  have cxA2 : v30.cell? ⟨xA, 2, none⟩ = some (.int .u8 0) := by rw [cell_of_row _ _ 2 _ _ _ XxAv30.out]; rfl
  have lxA := lt_of_heap XxAv30.out
  have cxB0 : v30.cell? ⟨xB, 0, none⟩ = some (.int .u8 5) := by rw [cell_of_row _ _ 0 _ _ _ XxBv30.out]; rfl
  have cxB1 : v30.cell? ⟨xB, 1, none⟩ = some (.int .u8 2) := by rw [cell_of_row _ _ 1 _ _ _ XxBv30.out]; rfl
  have cxB2 : v30.cell? ⟨xB, 2, none⟩ = some (.int .u8 127) := by rw [cell_of_row _ _ 2 _ _ _ XxBv30.out]; rfl
  have lxB := lt_of_heap XxBv30.out
  have cxD0 : v30.cell? ⟨xD, 0, none⟩ = some (.int .u8 5) := by rw [cell_of_row _ _ 0 _ _ _ XxDv30.out]; rfl
  have cxD1 : v30.cell? ⟨xD, 1, none⟩ = some (.int .u8 2) := by rw [cell_of_row _ _ 1 _ _ _ XxDv30.out]; rfl
  have cxD2 : v30.cell? ⟨xD, 2, none⟩ = some (.int .u8 5) := by rw [cell_of_row _ _ 2 _ _ _ XxDv30.out]; rfl
  have lxD := lt_of_heap XxDv30.out
  go_wp2_with fail
  clear cxA0 cxA1 cxA2 cxB0 cxB1 cxB2 cxD0 cxD1 cxD2 lxA lxB lxD XxAv30 XxBv30 XxDv30
  have bv31 : Below v30.heap.size v30 (v30.alloc (.cells (evA 5 3 0) 54)) := Below.al (Below.refl _ _) _
  have Bv31 : Below w.heap.size w (v30.alloc (.cells (evA 5 3 0) 54)) := Below.andThen Bv30 bv31
  have HBv31 : Hid ((v30.alloc (.cells (evA 5 3 0) 54)).heap[pb]? = some (.cells (bC 5 0 5) 76 (0, 0))) := blk11 bv31 HBv30.out
  clear HBv30
  have IWv31 : Hid (∃ P, IsW (v30.alloc (.cells (evA 5 3 0) 54)) p p P (one 5 nE)) := IWv30.out.elim fun P h => ⟨P, h.next bv31⟩
  have LWv31 : p ≤ (v30.alloc (.cells (evA 5 3 0) 54)).heap.size := Nat.le_trans LWv30 bv31.size
  clear IWv30 LWv30
  clear bv31 Bv30
  generalize hzv31 : ((v30.alloc (.cells (evA 5 3 0) 54)) : World) = v31 at Bv31 HBv31 IWv31 LWv31 ⊢
  clear hzv31
  obtain ⟨Pv32, h0v32⟩ := IWv31.out
  have TI := tick_none h0v32 (by decide) 31 (by decide) (by decide)
  have TIH : Hid _ := TI
  clear TI
  go_wp2_with fail
  refine Calls.mono (TIH.out) ?_
  rintro e v32 ⟨av32, cv32, rfl, hv32, kv32⟩
  have Bv32 : Below w.heap.size w v32 := Kt.up Bv31 kv32 LP.out Bv31.size
  have HBv32 : Hid (v32.heap[pb]? = some (.cells (bC 5 0 5) 76 (0, 0))) := kv32.typ _ _ _ _ HBv31.out (by decide) (by decide)
  clear HBv31
  have IWv32 : Hid (∃ P, IsW v32 p p P (one 5 nE)) := ⟨_, hv32⟩
  have LWv32 : p ≤ v32.heap.size := Nat.le_trans LWv31 kv32.size
  clear IWv31 LWv31 kv32 Bv31
  clear TIH
  obtain ⟨Pv33, h0v33⟩ := IWv32.out
  have TI := tick_gone h0v33 (by decide) 32 (by decide) (by decide)
  have TIH : Hid _ := TI
  clear TI
  go_wp2_with fail
  refine Calls.mono (TIH.out) ?_
  rintro e v33 ⟨gv33, ov33, cv33, rfl, _, hv33, kv33⟩
  have Bv33 : Below w.heap.size w v33 := Kt.up Bv32 kv33 LP.out Bv32.size
  have HBv33 : Hid (v33.heap[pb]? = some (.cells (bC 5 0 5) 76 (0, 0))) := kv33.typ _ _ _ _ HBv32.out (by decide) (by decide)
  clear HBv32
  have IWv33 : Hid (∃ P, IsW v33 p p P (one 5 nG)) := ⟨_, hv33⟩
  have LWv33 : p ≤ v33.heap.size := Nat.le_trans LWv32 kv33.size
  clear IWv32 LWv32 kv33 Bv32
  clear TIH
  obtain ⟨Pv34, h0v34⟩ := IWv33.out
  have TI := tick_none h0v34 (by decide) 40 (by decide) (by decide)
  have TIH : Hid _ := TI
  clear TI
  go_wp2_with fail
  refine Calls.mono (TIH.out) ?_
  rintro e v34 ⟨av34, cv34, rfl, hv34, kv34⟩
  have Bv34 : Below w.heap.size w v34 := Kt.up Bv33 kv34 LP.out Bv33.size
  have HBv34 : Hid (v34.heap[pb]? = some (.cells (bC 5 0 5) 76 (0, 0))) := kv34.typ _ _ _ _ HBv33.out (by decide) (by decide)
  clear HBv33
  have IWv34 : Hid (∃ P, IsW v34 p p P (one 5 nG)) := ⟨_, hv34⟩
  have LWv34 : p ≤ v34.heap.size := Nat.le_trans LWv33 kv34.size
  clear IWv33 LWv33 kv34 Bv33
  clear TIH
  go_wp2_with fail
  refine Calls.mono (BE.out 5 _) ?_
  rintro e v35 ⟨rfl, bv35⟩
  have Bv35 : Below w.heap.size w v35 := Below.andThen Bv34 bv35
  have HBv35 : Hid (v35.heap[pb]? = some (.cells (bC 5 0 5) 76 (0, 0))) := blk11 bv35 HBv34.out
  clear HBv34
  have IWv35 : Hid (∃ P, IsW v35 p p P (one 5 nG)) := IWv34.out.elim fun P h => ⟨P, h.next bv35⟩
  have LWv35 : p ≤ v35.heap.size := Nat.le_trans LWv34 bv35.size
  clear IWv34 LWv34
  clear bv35 Bv34
  obtain ⟨Pv36, h0v36⟩ := IWv35.out
  have HE := hear_5 h0v36 (by decide) 5 (by decide) 50 (by decide)
  rw [show newsK nG 5 = 1 from by decide, if_neg (by decide)] at HE
  simp only [eoV] at HE
  have HEH : Hid _ := HE
  clear HE
  go_wp2_with fail
  refine Calls.mono (HEH.out) ?_
  rintro e v36 ⟨rfl, hv36, kv36⟩
  have Bv36 : Below w.heap.size w v36 := Kt.up Bv35 kv36 LP.out Bv35.size
  have HBv36 : Hid (v36.heap[pb]? = some (.cells (bC 5 0 5) 76 (0, 0))) := kv36.typ _ _ _ _ HBv35.out (by decide) (by decide)
  clear HBv35
  have IWv36 : Hid (∃ P, IsW v36 p p P (one 5 nH)) := hv36
  have LWv36 : p ≤ v36.heap.size := Nat.le_trans LWv35 kv36.size
  clear IWv35 LWv35 kv36 Bv35
  clear HEH
  go_wp2_with fail
  have bv37 : Below v36.heap.size v36 (v36.alloc (.cells (evA 5 1 5) 54)) := Below.al (Below.refl _ _) _
  have Bv37 : Below w.heap.size w (v36.alloc (.cells (evA 5 1 5) 54)) := Below.andThen Bv36 bv37
  have HBv37 : Hid ((v36.alloc (.cells (evA 5 1 5) 54)).heap[pb]? = some (.cells (bC 5 0 5) 76 (0, 0))) := blk11 bv37 HBv36.out
  clear HBv36
  have IWv37 : Hid (∃ P, IsW (v36.alloc (.cells (evA 5 1 5) 54)) p p P (one 5 nH)) := IWv36.out.elim fun P h => ⟨P, h.next bv37⟩
  have LWv37 : p ≤ (v36.alloc (.cells (evA 5 1 5) 54)).heap.size := Nat.le_trans LWv36 bv37.size
  clear IWv36 LWv36
  clear bv37 Bv36
  generalize hzv37 : ((v36.alloc (.cells (evA 5 1 5) 54)) : World) = v37 at Bv37 HBv37 IWv37 LWv37 ⊢
  clear hzv37
  go_wp2_with fail
  refine Calls.mono (BE6.out _) ?_
  rintro e v38 ⟨rfl, bv38⟩
  have Bv38 : Below w.heap.size w v38 := Below.andThen Bv37 bv38
  have HBv38 : Hid (v38.heap[pb]? = some (.cells (bC 5 0 5) 76 (0, 0))) := blk11 bv38 HBv37.out
  clear HBv37
  have IWv38 : Hid (∃ P, IsW v38 p p P (one 5 nH)) := IWv37.out.elim fun P h => ⟨P, h.next bv38⟩
  have LWv38 : p ≤ v38.heap.size := Nat.le_trans LWv37 bv38.size
  clear IWv37 LWv37
  clear bv38 Bv37
  obtain ⟨Pv39, h0v39⟩ := IWv38.out
  have HE := hear_any h0v39 1798 1 5 0 0 0 0 0 0 0 false 50 (by decide) (by decide)
  rw [show btB 1798 1 5 0 0 0 0 0 0 0 false = true from by decide] at HE
  unfold hearE hearL at HE
  rw [heard_six] at HE
  simp only [eoV] at HE
  have HEH : Hid _ := HE
  clear HE
  go_wp2_with fail
  refine Calls.mono (HEH.out) ?_
  rintro e v39 ⟨rfl, hv39, kv39⟩
  have Bv39 : Below w.heap.size w v39 := Kt.up Bv38 kv39 LP.out Bv38.size
  have HBv39 : Hid (v39.heap[pb]? = some (.cells (bC 5 0 5) 76 (0, 0))) := kv39.typ _ _ _ _ HBv38.out (by decide) (by decide)
  clear HBv38
  have IWv39 : Hid (∃ P, IsW v39 p p P (one 5 nH)) := hv39
  have LWv39 : p ≤ v39.heap.size := Nat.le_trans LWv38 kv39.size
  clear IWv38 LWv38 kv39 Bv38
  clear HEH
  go_wp2_with fail
  have bv40 : Below v39.heap.size v39 (v39.alloc (.cells (evA 0 0 0) 54)) := Below.al (Below.refl _ _) _
  have Bv40 : Below w.heap.size w (v39.alloc (.cells (evA 0 0 0) 54)) := Below.andThen Bv39 bv40
  have HBv40 : Hid ((v39.alloc (.cells (evA 0 0 0) 54)).heap[pb]? = some (.cells (bC 5 0 5) 76 (0, 0))) := blk11 bv40 HBv39.out
  clear HBv39
  have IWv40 : Hid (∃ P, IsW (v39.alloc (.cells (evA 0 0 0) 54)) p p P (one 5 nH)) := IWv39.out.elim fun P h => ⟨P, h.next bv40⟩
  have LWv40 : p ≤ (v39.alloc (.cells (evA 0 0 0) 54)).heap.size := Nat.le_trans LWv39 bv40.size
  clear IWv39 LWv39
  clear bv40 Bv39
  generalize hzv40 : ((v39.alloc (.cells (evA 0 0 0) 54)) : World) = v40 at Bv40 HBv40 IWv40 LWv40 ⊢
  clear hzv40
  go_wp2_with fail
  refine Calls.mono (BE.out 6 _) ?_
  rintro e v41 ⟨rfl, bv41⟩
  have Bv41 : Below w.heap.size w v41 := Below.andThen Bv40 bv41
  have HBv41 : Hid (v41.heap[pb]? = some (.cells (bC 5 0 5) 76 (0, 0))) := blk11 bv41 HBv40.out
  clear HBv40
  have IWv41 : Hid (∃ P, IsW v41 p p P (one 5 nH)) := IWv40.out.elim fun P h => ⟨P, h.next bv41⟩
  have LWv41 : p ≤ v41.heap.size := Nat.le_trans LWv40 bv41.size
  clear IWv40 LWv40
  clear bv41 Bv40
  obtain ⟨Pv42, h0v42⟩ := IWv41.out
  have HE := hear_any h0v42 1797 1 6 0 0 0 0 0 0 0 false 50 (by decide) (by decide)
  rw [show btB 1797 1 6 0 0 0 0 0 0 0 false = false from by decide] at HE
  unfold hearE hearL at HE
  rw [heard_no (.inl rfl)] at HE
  simp only [eoV] at HE
  have HEH : Hid _ := HE
  clear HE
  go_wp2_with fail
  refine Calls.mono (HEH.out) ?_
  rintro e v42 ⟨rfl, hv42, kv42⟩
  have Bv42 : Below w.heap.size w v42 := Kt.up Bv41 kv42 LP.out Bv41.size
  have HBv42 : Hid (v42.heap[pb]? = some (.cells (bC 5 0 5) 76 (0, 0))) := kv42.typ _ _ _ _ HBv41.out (by decide) (by decide)
  clear HBv41
  have IWv42 : Hid (∃ P, IsW v42 p p P (one 5 nH)) := hv42
  have LWv42 : p ≤ v42.heap.size := Nat.le_trans LWv41 kv42.size
  clear IWv41 LWv41 kv42 Bv41
  clear HEH
  go_wp2_with fail
  have bv43 : Below v42.heap.size v42 (v42.alloc (.cells (evA 0 0 0) 54)) := Below.al (Below.refl _ _) _
  have Bv43 : Below w.heap.size w (v42.alloc (.cells (evA 0 0 0) 54)) := Below.andThen Bv42 bv43
  have HBv43 : Hid ((v42.alloc (.cells (evA 0 0 0) 54)).heap[pb]? = some (.cells (bC 5 0 5) 76 (0, 0))) := blk11 bv43 HBv42.out
  clear HBv42
  have IWv43 : Hid (∃ P, IsW (v42.alloc (.cells (evA 0 0 0) 54)) p p P (one 5 nH)) := IWv42.out.elim fun P h => ⟨P, h.next bv43⟩
  have LWv43 : p ≤ (v42.alloc (.cells (evA 0 0 0) 54)).heap.size := Nat.le_trans LWv42 bv43.size
  clear IWv42 LWv42
  clear bv43 Bv42
  generalize hzv43 : ((v42.alloc (.cells (evA 0 0 0) 54)) : World) = v43 at Bv43 HBv43 IWv43 LWv43 ⊢
  clear hzv43
  go_wp2_with fail
  have IL : Hid (Below w.heap.size w v43 ∧ p ≤ v43.heap.size ∧ ∃ P, IsW v43 p p P (SK 1)) := ⟨Bv43, LWv43, by rw [← SK_one]; exact IWv43.out⟩
  clear Bv43 LWv43 IWv43 HBv43 BE6
  go_loopw [33] (fun kv wr => ∃ k : Nat, 1 ≤ k ∧ k ≤ 17 ∧ kv = .int .i64 (k : Int) ∧ Below w.heap.size w wr ∧ p ≤ wr.heap.size ∧ ∃ P, IsW wr p p P (SK k)) (fun kv _ => 17 - (intOf kv).toNat)
  case atStart => exact ⟨1, by decide, by decide, rfl, IL.out⟩
  case round =>
    clear IL
    obtain ⟨k, hk1, hk17, rfl, Bk, Lk, Pk, IWk⟩ := hrel
    by_cases hk : k < 17
    · have gk : (k : Int) ≤ 16 := by omega
      have wk : IntKind.i64.wrap ((k : Int) + 1) = ((k + 1 : Nat) : Int) := by rw [IntKind.wrap_i64]; omega
      have wu : IntKind.u8.wrap (k : Int) = (k : Int) := by rw [IntKind.wrap_u8]; omega
      have SE := set_any IWk Lk (k : Int) 9 (by omega)
      have sc := SK_setC ⟨k, hk⟩ hk1
      rw [setL_ok sc, sc, show (k : Int).toNat = k from by omega, SK_set hk1 (by omega)] at SE
      have SEH : Hid _ := SE
      clear SE sc IWk
      go_wp2_with fail
      refine Calls.mono SEH.out ?_
      rintro e wk2 ⟨rfl, hk2, kk2⟩
      have FK : Hid (Below w.heap.size w wk2 ∧ p ≤ wk2.heap.size ∧ ∃ P, IsW wk2 p p P (SK (k + 1))) := ⟨Kt.up Bk kk2 LP.out Bk.size, Nat.le_trans Lk kk2.size, hk2⟩
      clear SEH Bk Lk hk2 kk2
      go_wp2_with fail
      exact ⟨⟨k + 1, by omega, by omega, by go_num, FK.out⟩, by simp [intOf]; omega⟩
    · obtain rfl : k = 17 := by omega
      have Bv99 := Bk
      have LWv99 := Lk
      have IWv99 : Hid (∃ P, IsW wr p p P (SK 17)) := ⟨_, IWk⟩
      clear Bk Lk IWk
      obtain ⟨v99, rfl⟩ : ∃ z, z = wr := ⟨_, rfl⟩
      obtain ⟨Pv44, h0v44⟩ := IWv99.out
      have SE := set_any h0v44 LWv99 17 9 (by decide)
      rw [setL_no (by rw [SK_lim]; decide), SK_lim] at SE
      have SEH : Hid _ := SE
      clear SE
      go_wp2_with fail
      refine Calls.mono (SEH.out) ?_
      rintro e v44 ⟨rfl, hv44, kv44⟩
      have Bv44 : Below w.heap.size w v44 := Kt.up Bv99 kv44 LP.out Bv99.size
      have IWv44 : Hid (∃ P, IsW v44 p p P (SK 17)) := hv44
      have LWv44 : p ≤ v44.heap.size := Nat.le_trans LWv99 kv44.size
      clear IWv99 LWv99 kv44 Bv99
      clear SEH
      obtain ⟨Pv45, h0v45⟩ := IWv44.out
      have SE := set_any h0v45 LWv44 17 0 (by decide)
      rw [setL_ok SL_setC.1, SL_setC.1] at SE
      have SEH : Hid _ := SE
      clear SE
      go_wp2_with fail
      refine Calls.mono (SEH.out) ?_
      rintro e v45 ⟨rfl, hv45, kv45⟩
      have Bv45 : Below w.heap.size w v45 := Kt.up Bv44 kv45 LP.out Bv44.size
      have IWv45 : Hid (∃ P, IsW v45 p p P ((SK 17).set 17 (fresh 0))) := hv45
      have LWv45 : p ≤ v45.heap.size := Nat.le_trans LWv44 kv45.size
      clear IWv44 LWv44 kv45 Bv44
      clear SEH
      obtain ⟨Pv46, h0v46⟩ := IWv45.out
      have SE := set_any h0v46 LWv45 3 0 (by decide)
      rw [setL_ok SL_setC.2.1, SL_setC.2.1] at SE
      have SEH : Hid _ := SE
      clear SE
      go_wp2_with fail
      refine Calls.mono (SEH.out) ?_
      rintro e v46 ⟨rfl, hv46, kv46⟩
      have Bv46 : Below w.heap.size w v46 := Kt.up Bv45 kv46 LP.out Bv45.size
      have IWv46 : Hid (∃ P, IsW v46 p p P (SL)) := hv46
      have LWv46 : p ≤ v46.heap.size := Nat.le_trans LWv45 kv46.size
      clear IWv45 LWv45 kv46 Bv45
      clear SEH
      obtain ⟨Pv47, h0v47⟩ := IWv46.out
      have SE := set_any h0v47 LWv46 17 9 (by decide)
      rw [setL_ok SL_setC.2.2, SL_setC.2.2] at SE
      have SEH : Hid _ := SE
      clear SE
      go_wp2_with fail
      refine Calls.mono (SEH.out) ?_
      rintro e v47 ⟨rfl, hv47, kv47⟩
      have Bv47 : Below w.heap.size w v47 := Kt.up Bv46 kv47 LP.out Bv46.size
      have IWv47 : Hid (∃ P, IsW v47 p p P (SL.set 17 (fresh 9))) := hv47
      have LWv47 : p ≤ v47.heap.size := Nat.le_trans LWv46 kv47.size
      clear IWv46 LWv46 kv47 Bv46
      clear SEH
      go_wp2_with fail
      refine Calls.mono (set_bad p 0 9 (.inl (by decide)) _) ?_
      rintro e v48 ⟨rfl, rfl⟩
      obtain ⟨v47, rfl⟩ : ∃ z, z = v48 := ⟨_, rfl⟩
      go_wp2_with fail
      refine Calls.mono (set_bad p 128 9 (.inl (by decide)) _) ?_
      rintro e v49 ⟨rfl, rfl⟩
      obtain ⟨v47, rfl⟩ : ∃ z, z = v49 := ⟨_, rfl⟩
      go_wp2_with fail
      refine Calls.mono (set_bad p 1 (-1) (.inr (by decide)) _) ?_
      rintro e v50 ⟨rfl, rfl⟩
      obtain ⟨v47, rfl⟩ : ∃ z, z = v50 := ⟨_, rfl⟩
      clear IWv47 LWv47
      go_wp2_with fail
      refine Calls.mono (newB_bad 0 (by decide) _) ?_
      rintro e v51 ⟨rfl, rfl⟩
      obtain ⟨v47, rfl⟩ : ∃ z, z = v51 := ⟨_, rfl⟩
      go_wp2_with fail
      refine Calls.mono (newB_bad 128 (by decide) _) ?_
      rintro e v52 ⟨rfl, rfl⟩
      obtain ⟨v47, rfl⟩ : ∃ z, z = v52 := ⟨_, rfl⟩
      go_wp2_with fail
      refine Calls.mono (nil_tick 1 5 _) ?_
      rintro e v53 ⟨rfl, bv53⟩
      have Bv53 : Below w.heap.size w v53 := Below.andThen Bv47 bv53
      clear bv53 Bv47
      go_wp2_with fail
      have bv54 : Below v53.heap.size v53 (v53.alloc (.cells (frC 0 0 0 0 0 0 0 0 0 0 false) 37)) := Below.al (Below.refl _ _) _
      have Bv54 : Below w.heap.size w (v53.alloc (.cells (frC 0 0 0 0 0 0 0 0 0 0 false) 37)) := Below.andThen Bv53 bv54
      clear bv54 Bv53
      generalize hzv54 : ((v53.alloc (.cells (frC 0 0 0 0 0 0 0 0 0 0 false) 37)) : World) = v54 at Bv54 ⊢
      clear hzv54
      go_wp2_with fail
      refine Calls.mono (nil_due _) ?_
      rintro e v55 ⟨rfl, rfl⟩
      obtain ⟨v54, rfl⟩ : ∃ z, z = v55 := ⟨_, rfl⟩
      go_wp2_with fail
      refine Calls.mono (BE.out 5 _) ?_
      rintro e v56 ⟨rfl, bv56⟩
      have Bv56 : Below w.heap.size w v56 := Below.andThen Bv54 bv56
      clear bv56 Bv54
      go_wp2_with fail
      refine Calls.mono (nil_hear 1797 1 5 0 0 0 0 0 0 0 false 1 (by decide) (by decide) _) ?_
      rintro e v57 ⟨rfl, bv57⟩
      have Bv57 : Below w.heap.size w v57 := Below.andThen Bv56 bv57
      clear bv57 Bv56
      go_wp2_with fail
      have bv58 : Below v57.heap.size v57 (v57.alloc (.cells (evA 0 0 0) 54)) := Below.al (Below.refl _ _) _
      have Bv58 : Below w.heap.size w (v57.alloc (.cells (evA 0 0 0) 54)) := Below.andThen Bv57 bv58
      clear bv58 Bv57
      generalize hzv58 : ((v57.alloc (.cells (evA 0 0 0) 54)) : World) = v58 at Bv58 ⊢
      clear hzv58
      go_wp2_with fail
      refine Calls.mono (nil_state 1 _) ?_
      rintro e v59 ⟨rfl, rfl⟩
      obtain ⟨v58, rfl⟩ : ∃ z, z = v59 := ⟨_, rfl⟩
      have NDH := nil_wdue v58
      simp only [dueV, Option.getD, Option.isSome] at NDH
      go_wp2_with fail
      refine Calls.mono (NDH) ?_
      rintro e v60 ⟨rfl, bv60⟩
      have Bv60 : Below w.heap.size w v60 := Below.andThen Bv58 bv60
      clear bv60 Bv58
      clear NDH
      go_wp2_with fail
      have gR := at11 v60 (.cells #[.int .i64 (-9223372036854775808), .int .i64 (-1), .int .i64 (0), .int .i64 (1099511627776), .int .i64 (1099511627777), .int .i64 (9223372036854775807)] 2) v60.heap.size rfl
      have BR0 := Below.al Bv60 (.cells #[.int .i64 (-9223372036854775808), .int .i64 (-1), .int .i64 (0), .int .i64 (1099511627776), .int .i64 (1099511627777), .int .i64 (9223372036854775807)] 2)
      obtain ⟨RB, hRB⟩ : ∃ b, b = v60.heap.size := ⟨_, rfl⟩
      rw [← hRB] at gR
      rw [← hRB]
      clear hRB Bv60
      generalize hzR : (v60.alloc (.cells #[.int .i64 (-9223372036854775808), .int .i64 (-1), .int .i64 (0), .int .i64 (1099511627776), .int .i64 (1099511627777), .int .i64 (9223372036854775807)] 2) : World) = vR at gR BR0 ⊢
      clear hzR
      have GR : Hid (vR.heap[RB]? = some (.cells #[.int .i64 (-9223372036854775808), .int .i64 (-1), .int .i64 (0), .int .i64 (1099511627776), .int .i64 (1099511627777), .int .i64 (9223372036854775807)] 2 (0, 0))) := gR
      clear gR
      have RR : Hid (∀ (W : World) (n : Nat), W.heap[RB]? = some (.cells #[.int .i64 (-9223372036854775808), .int .i64 (-1), .int .i64 (0), .int .i64 (1099511627776), .int .i64 (1099511627777), .int .i64 (9223372036854775807)] 2 (0, 0)) → n < 6 → ∃ t : Int, W.cell? ⟨RB, n, none⟩ = some (.int .i64 t)) := fun W n h hn => by rw [cell_of_row W RB n _ _ _ h]; rcases n with _ | _ | _ | _ | _ | _ | n <;> first | exact ⟨_, rfl⟩ | omega
      go_loopw [294] (fun nv wr => ∃ n : Nat, n ≤ 6 ∧ nv = .int .i64 (n : Int) ∧ Below w.heap.size w wr ∧ wr.heap[RB]? = some (.cells #[.int .i64 (-9223372036854775808), .int .i64 (-1), .int .i64 (0), .int .i64 (1099511627776), .int .i64 (1099511627777), .int .i64 (9223372036854775807)] 2 (0, 0))) (fun nv _ => 6 - (intOf nv).toNat)
      case atStart => exact ⟨0, Nat.zero_le _, rfl, BR0, GR.out⟩
      case round =>
        clear BR0 GR
        obtain ⟨n, hn6, rfl, Bn, Gn⟩ := hrel
        by_cases hn : n < 6
        · have gn : (n : Int) < 6 := by omega
          have gn0 : (0 : Int) ≤ (n : Int) := by omega
          have wk : IntKind.i64.wrap ((n : Int) + 1) = ((n + 1 : Nat) : Int) := by rw [IntKind.wrap_i64]; omega
          obtain ⟨t, ct⟩ := RR.out wr n Gn hn
          have lt := block_lt_of_cell ct
          have GN : Hid (wr.heap[RB]? = some (.cells #[.int .i64 (-9223372036854775808), .int .i64 (-1), .int .i64 (0), .int .i64 (1099511627776), .int .i64 (1099511627777), .int .i64 (9223372036854775807)] 2 (0, 0))) := Gn
          clear Gn
          have W7 : Hid (Calls Try.prog 4 #[.slice (some ⟨wr.heap.size, 0, none⟩) 7 7] (wr.alloc (.cells ((L7 t).flatMap Ox.C).toArray 51)) fun e w' => e = .returned (.bool true) ∧ Below (wr.alloc (.cells ((L7 t).flatMap Ox.C).toArray 51)).heap.size (wr.alloc (.cells ((L7 t).flatMap Ox.C).toArray 51)) w') := heartWatches_any _ 7 7 (L7 t) _ (isOx_lit (at11 _ _ _ rfl) (L7_ok t))
          go_wp2_with fail
          refine Calls.mono W7.out ?_
          rintro e wa ⟨rfl, ba⟩
          have Ba : Below w.heap.size w wa := Below.andThen (Below.al Bn _) ba
          have Ga : Hid (wa.heap[RB]? = some (.cells #[.int .i64 (-9223372036854775808), .int .i64 (-1), .int .i64 (0), .int .i64 (1099511627776), .int .i64 (1099511627777), .int .i64 (9223372036854775807)] 2 (0, 0))) := blk11 ba (ext11 GN.out)
          clear W7 ba GN Bn ct lt
          have W4 : Hid (Calls Try.prog 3 #[.int .u8 1, .slice (some ⟨wa.heap.size, 0, none⟩) 4 4] (wa.alloc (.cells ((L4 t).flatMap Bx.C).toArray 32)) fun e w' => e = .returned (.bool true) ∧ Below (wa.alloc (.cells ((L4 t).flatMap Bx.C).toArray 32)).heap.size (wa.alloc (.cells ((L4 t).flatMap Bx.C).toArray 32)) w') := heartBeats_any 1 _ 4 4 (L4 t) _ (isBx_lit (at11 _ _ _ rfl) (L4_ok t))
          go_wp2_with fail
          refine Calls.mono W4.out ?_
          rintro e wb ⟨rfl, bb⟩
          have Bb : Below w.heap.size w wb := Below.andThen (Below.al Ba _) bb
          have Gb : Hid (wb.heap[RB]? = some (.cells #[.int .i64 (-9223372036854775808), .int .i64 (-1), .int .i64 (0), .int .i64 (1099511627776), .int .i64 (1099511627777), .int .i64 (9223372036854775807)] 2 (0, 0))) := blk11 bb (ext11 Ga.out)
          clear W4 bb Ga Ba
          go_wp2_with fail
          exact ⟨⟨n + 1, by omega, by go_num, Bb, Gb.out⟩, by simp [intOf]; omega⟩
        · obtain rfl : n = 6 := by omega
          have Bv999 := Bn
          clear Gn Bn RR
          obtain ⟨v999, rfl⟩ : ∃ z, z = wr := ⟨_, rfl⟩
          go_wp2_with fail
          refine Calls.mono (nil_set 1 1 _) ?_
          rintro e v61 ⟨rfl, rfl⟩
          obtain ⟨v999, rfl⟩ : ∃ z, z = v61 := ⟨_, rfl⟩
          go_wp2_with fail
          refine Calls.mono (nil_wset 1 1 _) ?_
          rintro e v62 ⟨rfl, rfl⟩
          obtain ⟨v999, rfl⟩ : ∃ z, z = v62 := ⟨_, rfl⟩
          go_wp2_with fail
          refine Calls.mono (nil_wtick 1 _) ?_
          rintro e v63 ⟨rfl, bv63⟩
          have Bv63 : Below w.heap.size w v63 := Below.andThen Bv999 bv63
          clear bv63 Bv999
          go_wp2_with fail
          refine Calls.mono (works_any _) ?_
          rintro e v64 ⟨rfl, bv64⟩
          have Bv64 : Below w.heap.size w v64 := Below.andThen Bv63 bv64
          clear bv64 Bv63
          go_wp2_with fail
          go_ret
          exact ⟨rfl, Bv64⟩
#print axioms heartKnown_any
end Go.Proofs.Ytjdfacjfpdfafaa
