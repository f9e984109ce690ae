/-
  The walk of the document's Tick.
-/
import Derived.Test.YtjdfacjfpdfafaaHp
import Derived.Test.YtjdfacjfpdfafaaHi
import Derived.Test.YtjdfacjfpdfafaaHk
namespace Go.Proofs.Ytjdfacjfpdfafaa
open Go.RowKit

theorem infoUE : (Try.prog.info? 58).map (fun i => (i.zero, i.size, i.bytes)) = some (some (.agg #[.int .u8 0, .int .u8 0, .int .u8 0]), 3, 3) := by kernel_rfl
/-- A row of the document's events. -/
abbrev IsUv (w : World) (v : Value) (l : List Ev) : Prop := Own w 58 3 v l.length (evC l)
theorem IsD.same {w w' : World} {q r : Nat} {S : List Nd} (h : IsD w q r S) (hk : ∀ (j : Nat) (C : Array Value) (T : TypeId) (f : Nat × Nat), w.heap[j]? = some (.cells C T f) → T = 84 ∨ T = 89 → w'.heap[j]? = some (.cells C T f)) : IsD w' q r S := ⟨hk _ _ _ _ h.row (.inl rfl), hk _ _ _ _ h.l (.inr rfl), h.sl⟩
/-- How far the document's Tick has come. -/
structure DTk (w wr : World) (q r : Nat) (S : List Nd) (now : Int) (j : Nat) (v : Value) : Prop where
  d : IsD wr q r (tickK now S j)
  ev : IsUv wr v (evK now S j)
  own : ∀ g, v.ownBlock = some g → w.heap.size ≤ g
  k : Kp [r] w wr
theorem DTk.next {w wr w' : World} {q r : Nat} {S : List Nd} {now : Int} {j : Nat} {v : Value} (h : DTk w wr q r S now j v) (hb : Below wr.heap.size wr w') : DTk w w' q r S now j v := ⟨h.d.next hb, h.ev.next hb, h.own, h.k.trans (Kp.of hb)⟩
theorem DTk.no {w wr : World} {q r : Nat} {S : List Nd} {now : Int} {j : Nat} {v : Value} {x : Nd} (h : DTk w wr q r S now j v) (hx : S[j]? = some x) (hg : goneB x now = false) : DTk w wr q r S now (j + 1) v := ⟨by rw [tickK_no hx hg]; exact h.d, by rw [evK_no hx hg]; exact h.ev, h.own, h.k⟩
theorem DTk.put {w wr y0 X w3 : World} {q r g o cap : Nat} {S : List Nd} {now : Int} {j : Nat} {v : Value} {x : Nd} (h : DTk w wr q r S now j v) (hw : w.heap.size ≤ wr.heap.size) (hx : S[j]? = some x) (hg : goneB x now = true) (hy : Below wr.heap.size wr y0) (hX : Below y0.heap.size (y0.setRow r (rowD ((tickK now S j).set j (x.tick now)))) X)
    (hO : OwnAt w3 58 3 g o ((evK now S j).length + 1) cap (evC (evK now S j) ++ [.int .u8 (j : Int), .int .u8 4, .int .u8 x.s])) (hgg : v.ownBlock = some g ∨ g = X.heap.size) (hK : Kp v.ownBlock.toList X w3) : DTk w w3 q r S now (j + 1) (.slice (some ⟨g, o, none⟩) ((evK now S j).length + 1) cap) := by
  have d1 := ((h.d.next hy).put j (x.tick now))
  rw [tickK_set hx] at d1
  rw [tickK_set hx] at hX
  have hX' : Below (y0.setRow r (rowD (tickK now S (j + 1)))).heap.size (y0.setRow r (rowD (tickK now S (j + 1)))) X := by rw [size_setRow]; exact hX
  have d2 := d1.1.next hX'
  have ev1 : IsUv (y0.setRow r (rowD (tickK now S (j + 1)))) v (evK now S j) := (h.ev.next hy).kp d1.2 (fun g hg hm => own_ne (h.ev.next hy) (h.d.next hy).l (by decide) (by simp at hm; rw [hg, hm]))
  have ev2 := ev1.next hX'
  refine ⟨d2.same fun i C T f hi ht => hK.at (fun hm => own_ne ev2 hi (by rcases ht with rfl | rfl <;> decide) (by simpa using hm)) hi, ?_, ?_, ?_⟩
  · rw [evK_yes hx hg]
    refine .inr ⟨g, o, cap, by simp, ?_⟩
    rw [evC_app, List.length_append, List.length_singleton]
    exact hO
  · intro g' hg'
    cases hg'
    rcases hgg with e | e
    · exact h.own _ e
    · show w.heap.size ≤ g
      have := hX'.size
      have := hy.size
      have : (y0.setRow r (rowD (tickK now S (j + 1)))).heap.size = y0.heap.size := size_setRow _ _ _
      omega
  · have kX := ((h.k.trans (Kp.of hy)).trans d1.2).trans (Kp.of hX')
    exact ⟨hK.os.trans kX.os, hK.tape.trans kX.tape, hK.output.trans kX.output, Nat.le_trans kX.size hK.size, fun i hi hs => (hK.block i (Nat.lt_of_lt_of_le hi kX.size) (fun hm => by
      have := h.own i (by simpa using hm)
      omega)).trans (kX.block i hi hs)⟩
set_option linter.unusedSimpArgs false in
set_option maxHeartbeats 4000000 in
set_option maxRecDepth 100000 in
theorem rtick_bad {w : World} {q r : Nat} {S : List Nd} (h : IsD w q r S) (now : Int) (ht : tmB now = false) : Calls Try.prog 25 #[pt q, .int .i64 now] w fun e w' => e = .returned (.slice none 0 0) ∧ w' = w := by
  have I1 := fun w => time_any now w
  rw [ht] at I1
  have c0 := h.c0
  clear h ht
  go_enter Try.func25, Try.ntmps25
  go_wp2_with fail
  go_loopw [5, 6] (fun v u wr => v = .slice none 0 0 ∧ u = .int .i64 0 ∧ wr = w) (fun _ _ _ => 0)
  case atStart => exact ⟨rfl, rfl, rfl⟩
  case round =>
    obtain ⟨rfl, rfl, rfl⟩ := hrel
    go_wp2_with fail
    refine (I1 _).mono ?_
    rintro e w1 ⟨rfl, rfl⟩
    go_wp2_with fail
    go_ret
    exact ⟨rfl, rfl⟩
set_option linter.unusedSimpArgs false in
set_option maxHeartbeats 4000000 in
set_option maxRecDepth 100000 in
theorem rtick_ok {w : World} {q r : Nat} {S : List Nd} (h : IsD w q r S) (hok : ∀ x ∈ S, x.Ok) (now : Int) (ht : tmB now = true) : Calls Try.prog 25 #[pt q, .int .i64 now] w fun e w' => ∃ v, e = .returned v ∧ DTk w w' q r S now 128 v := by
  have I1 := fun w => time_any now w
  rw [ht] at I1
  have TN := tmB_of ht
  have HL : Hid (S.length = 128) := h.sl
  have OK : Hid (∀ x ∈ S, x.Ok) := hok
  have D0 : Hid (DTk w w q r S now 0 (.slice none 0 0)) := ⟨by simpa [tickK] using h, own_nil _ _ _, (fun g hg => by cases hg), Kp.refl _ _⟩
  clear h hok ht
  go_enter Try.func25, Try.ntmps25
  go_wp2_with fail
  go_loopw [5, 6] (fun v iv wr => ∃ j : Nat, j ≤ 128 ∧ iv = .int .i64 (j : Int) ∧ DTk w wr q r S now j v) (fun _ iv _ => 128 - (intOf iv).toNat)
  case atStart => exact ⟨0, Nat.zero_le _, rfl, D0.out⟩
  case round =>
    obtain ⟨j, hj, rfl, HT0⟩ := hrel
    have HT : Hid (DTk w wr q r S now j u5) := HT0
    have c0 := HT0.d.c0
    clear HT0
    by_cases hj8 : j < 128
    · have gk : (j : Int) < 128 := by omega
      have gk0 : (0 : Int) ≤ (j : Int) := by omega
      have gn : j < 128 := hj8
      have wk : IntKind.i64.wrap ((j : Int) + 1) = ((j + 1 : Nat) : Int) := by rw [IntKind.wrap_i64]; omega
      have wu : IntKind.u8.wrap (j : Int) = (j : Int) := by rw [IntKind.wrap_u8]; omega
      obtain ⟨y, hy⟩ : ∃ y, S[j]? = some y := ⟨_, List.getElem?_eq_getElem (by have := HL.out; omega)⟩
      have o := OK.out y (List.mem_of_getElem? hy)
      have LD := HT.out.d.load (tickK_at (now := now) hy)
      have wn : IntKind.i64.wrap (now - y.t) = now - y.t := by obtain ⟨o1, o2, o3, o4, _⟩ := o; exact w64 _ (by omega) (by omega)
      have NO : Hid (goneB y now = false → ∀ w', Below wr.heap.size wr w' → DTk w w' q r S now (j + 1) u5) := fun hg w' hb => (HT.out.no hy hg).next hb
      have HY : Hid (S[j]? = some y) := hy
      have UA : Hid (u5 = u5) := rfl
      have gE : Hid (∀ b, goneB y now = b → goneB y now = b) := fun _ h => h
      clear hy o UA gE D0
      obtain ⟨W, hh, g, st, t⟩ := y
      rw [show (Nd.mk W hh g st t).D.toArray = #[.int .i64 W, .bool hh, .bool g, .int .u8 st, .int .i64 t] from rfl] at LD
      simp only at wn
      by_cases hW : 0 < W
      rotate_left
      · have N := NO.out (by simp [goneB, Nd.on, hW])
        have N9 : Hid _ := N
        clear NO N HY HT
        go_wp2_with fail
        refine (I1 _).mono ?_
        rintro e w1 ⟨rfl, rfl⟩
        go_wp2_with (refine wpList_load_by rfl 89 _ rfl ⟨r, j * 5, none⟩ _ rfl LD ?_)
        exact ⟨⟨j + 1, by omega, by go_num, N9.out _ (by repeat (first | exact Below.refl _ _ | apply Below.drew | apply Below.al))⟩, by simp [intOf]; omega⟩
      cases hh with
      | false =>
        have N := NO.out (by simp [goneB, Nd.on])
        have N9 : Hid _ := N
        clear NO N HY HT
        go_wp2_with fail
        refine (I1 _).mono ?_
        rintro e w1 ⟨rfl, rfl⟩
        go_wp2_with (refine wpList_load_by rfl 89 _ rfl ⟨r, j * 5, none⟩ _ rfl LD ?_)
        exact ⟨⟨j + 1, by omega, by go_num, N9.out _ (by repeat (first | exact Below.refl _ _ | apply Below.drew | apply Below.al))⟩, by simp [intOf]; omega⟩
      | true =>
        cases g with
        | true =>
          have N := NO.out (by simp [goneB, Nd.on])
          have N9 : Hid _ := N
          clear NO N HY HT
          go_wp2_with fail
          refine (I1 _).mono ?_
          rintro e w1 ⟨rfl, rfl⟩
          go_wp2_with (refine wpList_load_by rfl 89 _ rfl ⟨r, j * 5, none⟩ _ rfl LD ?_)
          exact ⟨⟨j + 1, by omega, by go_num, N9.out _ (by repeat (first | exact Below.refl _ _ | apply Below.drew | apply Below.al))⟩, by simp [intOf]; omega⟩
        | false =>
          by_cases h1 : t ≤ now
          rotate_left
          · have h2 : ¬ t + W ≤ now := by omega
            have N := NO.out (by simp [goneB, Nd.on, h2])
            have N9 : Hid _ := N
            clear NO N HY HT
            go_wp2_with fail
            refine (I1 _).mono ?_
            rintro e w1 ⟨rfl, rfl⟩
            go_wp2_with (refine wpList_load_by rfl 89 _ rfl ⟨r, j * 5, none⟩ _ rfl LD ?_)
            exact ⟨⟨j + 1, by omega, by go_num, N9.out _ (by repeat (first | exact Below.refl _ _ | apply Below.drew | apply Below.al))⟩, by simp [intOf]; omega⟩
          by_cases h2 : W ≤ now - t
          rotate_left
          · have h3 : ¬ t + W ≤ now := by omega
            have N := NO.out (by simp [goneB, Nd.on, h3])
            have N9 : Hid _ := N
            clear NO N HY HT
            go_wp2_with fail
            refine (I1 _).mono ?_
            rintro e w1 ⟨rfl, rfl⟩
            go_wp2_with (refine wpList_load_by rfl 89 _ rfl ⟨r, j * 5, none⟩ _ rfl LD ?_)
            exact ⟨⟨j + 1, by omega, by go_num, N9.out _ (by repeat (first | exact Below.refl _ _ | apply Below.drew | apply Below.al))⟩, by simp [intOf]; omega⟩
          have hg : Hid (goneB (Nd.mk W true false st t) now = true) := by show _ = _; simp [goneB, Nd.on, hW]; omega
          clear NO
          go_wp2_with fail
          refine (I1 _).mono ?_
          rintro e w1 ⟨rfl, rfl⟩
          go_wp2_with (refine wpList_load_by rfl 89 _ rfl ⟨r, j * 5, none⟩ _ rfl LD ?_)
          have gB := at11 w1 (.cells #[.int .i64 W, .bool true, .bool true, .int .u8 st, .int .i64 t] 89) w1.heap.size rfl
          have Y0 : Below w1.heap.size w1 (w1.alloc (.cells #[.int .i64 W, .bool true, .bool true, .int .u8 st, .int .i64 t] 89)) := (by repeat (first | exact Below.refl _ _ | apply Below.drew | apply Below.al))
          generalize hy : (w1.alloc (.cells #[.int .i64 W, .bool true, .bool true, .int .u8 st, .int .i64 t] 89) : World) = y at gB Y0 ⊢
          clear hy LD
          have DY : Hid (IsD y.drew q r (tickK now S j)) := (HT.out.d.next Y0).next (Below.drew (Below.refl _ _))
          have cq := (HT.out.d.next Y0).c0
          have nqr := (HT.out.d.next Y0).ne
          have nbr : w1.heap.size ≠ r := by have := lt_of_heap HT.out.d.l; omega
          have ST9 := DY.out.store (k := j) gn (Nd.mk W true true st t)
          rw [show (Nd.mk W true true st t).D.toArray = #[.int .i64 W, .bool true, .bool true, .int .u8 st, .int .i64 t] from rfl] at ST9
          refine wp_region_held_drew (S := fun x1 => x1.cell? ⟨q, 0, none⟩ = some (.slice (some ⟨r, 0, none⟩) 128 128) ∧ x1.heap[w1.heap.size]? = some (.cells #[.int .i64 W, .bool true, .bool true, .int .u8 st, .int .i64 t] 89 (0, 0))) (by kernel_rfl) (⟨cq, gB⟩) (fun hHeld => ?_)
          refine wpAnyH_take (i := 0) (v := (.pointer (some ⟨q, 0, none⟩))) rfl (by kernel_rfl) (by kernel_rfl) (by kernel_rfl) (fun _ _ _ h => h) (Or.inl ⟨by rfl, ?_⟩) (by assumption) ?_
          · intro w9 hSw
            try dsimp only at hSw
            go_simp
            all_goals try decide
            all_goals try assumption
            all_goals try omega
          try simp only [Act.put, List.getElem_toArray, List.getElem_cons_succ, List.getElem_cons_zero, List.setIfInBounds_toArray, List.set_cons_zero, List.set_cons_succ]
          refine wpAnyH_take (i := 1) (v := (.pointer (some ⟨q, 0, none⟩))) rfl (by kernel_rfl) (by kernel_rfl) (by kernel_rfl) (fun _ _ _ h => h) (Or.inl ⟨by rfl, ?_⟩) (by assumption) ?_
          · intro w9 hSw
            try dsimp only at hSw
            go_simp
            all_goals try decide
            all_goals try assumption
            all_goals try omega
          try simp only [Act.put, List.getElem_toArray, List.getElem_cons_succ, List.getElem_cons_zero, List.setIfInBounds_toArray, List.set_cons_zero, List.set_cons_succ]
          refine wpAnyH_take (i := 2) (v := (.pointer (some ⟨q, 0, none⟩))) rfl (by kernel_rfl) (by kernel_rfl) (by kernel_rfl) (fun _ _ _ h => h) (Or.inl ⟨by rfl, ?_⟩) (by assumption) ?_
          · intro w9 hSw
            try dsimp only at hSw
            go_simp
            all_goals try decide
            all_goals try assumption
            all_goals try omega
          try simp only [Act.put, List.getElem_toArray, List.getElem_cons_succ, List.getElem_cons_zero, List.setIfInBounds_toArray, List.set_cons_zero, List.set_cons_succ]
          refine wpAnyH_take (i := 3) (v := (.slice (some ⟨r, 0, none⟩) 128 128)) rfl (by kernel_rfl) (by kernel_rfl) (by kernel_rfl) (fun _ _ _ h => h) (Or.inl ⟨by rfl, ?_⟩) (by assumption) ?_
          · intro w9 hSw
            try dsimp only at hSw
            go_simp
            all_goals try decide
            all_goals try assumption
            all_goals try omega
          try simp only [Act.put, List.getElem_toArray, List.getElem_cons_succ, List.getElem_cons_zero, List.setIfInBounds_toArray, List.set_cons_zero, List.set_cons_succ]
          refine wpAnyH_take (i := 4) (v := (.int .i64 (j : Int))) rfl (by kernel_rfl) (by kernel_rfl) (by kernel_rfl) (fun _ _ _ h => h) (Or.inl ⟨by rfl, ?_⟩) (by assumption) ?_
          · intro w9 hSw
            try dsimp only at hSw
            go_simp
            all_goals try decide
            all_goals try assumption
            all_goals try omega
          try simp only [Act.put, List.getElem_toArray, List.getElem_cons_succ, List.getElem_cons_zero, List.setIfInBounds_toArray, List.set_cons_zero, List.set_cons_succ]
          refine wpAnyH_take (i := 5) (v := (.agg #[.int .i64 W, .bool true, .bool true, .int .u8 st, .int .i64 t])) rfl (by kernel_rfl) (by kernel_rfl) (by kernel_rfl) (fun _ _ _ h => h) (Or.inl ⟨by rfl, ?_⟩) (by assumption) ?_
          · intro w9 hSw
            try dsimp only at hSw
            exact ex_load11 89 (.tmp 7) rfl _ _ rfl (load_part 89 5 infoN aggN _ w1.heap.size 0 [.int .i64 W, .bool true, .bool true, .int .u8 st, .int .i64 t] _ hSw.2 (by simp))
          try simp only [Act.put, List.getElem_toArray, List.getElem_cons_succ, List.getElem_cons_zero, List.setIfInBounds_toArray, List.set_cons_zero, List.set_cons_succ]
          refine wpAnyH_take (i := 6) (v := (.pointer (some ⟨r, j * 5, none⟩))) rfl (by kernel_rfl) (by kernel_rfl) (by kernel_rfl) (fun _ _ _ h => h) (Or.inl ⟨by rfl, ?_⟩) (by assumption) ?_
          · intro w9 hSw
            try dsimp only at hSw
            go_simp
            all_goals try decide
            all_goals try assumption
            all_goals try omega
          try simp only [Act.put, List.getElem_toArray, List.getElem_cons_succ, List.getElem_cons_zero, List.setIfInBounds_toArray, List.set_cons_zero, List.set_cons_succ]
          refine wpAnyH_ready (rs := [7]) (by kernel_rfl) (by simp) ?_
          refine AllReadyH.cons rfl (fun K' hK => ?_) AllReadyH.nil
          rw [if_pos (by rfl)]
          simp only [List.getElem_toArray, List.getElem_cons_succ, List.getElem_cons_zero]
          obtain ⟨S0, S1⟩ := hHeld
          refine wp_store_by 89 _ _ rfl ⟨r, j * 5, none⟩ _ rfl rfl ST9 ?_
          refine hK.out _ _ (⟨sr11 nqr S0, sh11 nbr S1⟩) (fun hHeld => ?_)
          clear hK K'
          try simp only [Act.put, List.getElem_toArray, List.getElem_cons_succ, List.getElem_cons_zero, List.setIfInBounds_toArray, List.set_cons_zero, List.set_cons_succ]
          refine wpAnyH_done (by kernel_rfl) ?_ _
          obtain ⟨_, gz0⟩ := hHeld
          clear S0 S1 ST9
          have TX : (Nd.mk W true false st t).tick now = Nd.mk W true true st t := if_pos hg.out
          have Y1 : Below w1.heap.size w1 y.drew := Below.drew Y0
          have PU := DY.out.put j (Nd.mk W true true st t)
          have ev1 : IsUv (y.drew.setRow r (rowD ((tickK now S j).set j (Nd.mk W true true st t)))) u5 (evK now S j) := (HT.out.ev.next Y1).kp PU.2 (fun g hg hm => own_ne (HT.out.ev.next Y1) DY.out.l (by decide) (by simp at hm; rw [hg, hm]))
          have FP : Hid (∀ (X w3 : World) (g o cap : Nat), Below y.drew.heap.size (y.drew.setRow r (rowD ((tickK now S j).set j (Nd.mk W true true st t)))) X → OwnAt w3 58 3 g o ((evK now S j).length + 1) cap (evC (evK now S j) ++ [.int .u8 (j : Int), .int .u8 4, .int .u8 st]) → (u5.ownBlock = some g ∨ g = X.heap.size) → Kp u5.ownBlock.toList X w3 → DTk w w3 q r S now (j + 1) (.slice (some ⟨g, o, none⟩) ((evK now S j).length + 1) cap)) := fun X w3 g o cap hX hO hgg hK => HT.out.put HT.out.k.size HY.out hg.out Y1 (by rw [TX]; exact hX) hO hgg hK
          have sz : (y.drew.setRow r (rowD ((tickK now S j).set j (Nd.mk W true true st t)))).heap.size = y.drew.heap.size := size_setRow _ _ _
          have FQ : Hid (∀ (X w3 : World) (g o cap : Nat), Below (y.drew.setRow r (rowD ((tickK now S j).set j (Nd.mk W true true st t)))).heap.size (y.drew.setRow r (rowD ((tickK now S j).set j (Nd.mk W true true st t)))) X → OwnAt w3 58 3 g o ((evK now S j).length + 1) cap (evC (evK now S j) ++ [.int .u8 (j : Int), .int .u8 4, .int .u8 st]) → (u5.ownBlock = some g ∨ g = X.heap.size) → Kp u5.ownBlock.toList X w3 → DTk w w3 q r S now (j + 1) (.slice (some ⟨g, o, none⟩) ((evK now S j).length + 1) cap)) := fun X w3 g o cap hX => FP.out X w3 g o cap (by rw [sz] at hX; exact hX)
          generalize hz : (y.drew.setRow r (rowD ((tickK now S j).set j (Nd.mk W true true st t))) : World) = z at gz0 ev1 FQ ⊢
          clear hz sz FP PU Y1 TX DY cq nqr nbr gB Y0 HY hg c0
          have c3 : z.cell? ⟨w1.heap.size, 3, none⟩ = some (.int .u8 st) := by rw [cell_of_row z _ 3 _ _ _ gz0]; rfl
          have lz := lt_of_heap gz0
          obtain ⟨i0, hi, hz0, hz1, hz2⟩ := info_parts infoUE
          have le := evK_len now S j
          have RUN := fun ty => Own.append (w := (z.alloc (.cells #[.int .u8 (j : Int), .int .u8 4, .int .u8 st] 58))) (ty := ty) Try.underlying64 hi hz0 hz1 hz2 rfl (by decide) (ev1.next (by repeat (first | exact Below.refl _ _ | apply Below.drew | apply Below.al))) ⟨z.heap.size, 0, none⟩ 1 1 [.int .u8 (j : Int), .int .u8 4, .int .u8 st] rfl (fun i u hu => by rw [add_at, Nat.zero_add]; exact (cell_of_row _ _ i _ _ _ (at11 z (.cells #[.int .u8 (j : Int), .int .u8 4, .int .u8 st] 58) z.heap.size rfl)).trans (by simpa using hu)) (fun u hu => by simp at hu; rcases hu with rfl | rfl | rfl <;> rfl) (by decide) (by omega) (by decide)
          obtain ⟨g9, o9, cap9, w9, rr, hO, hgg, hK⟩ := RUN 64
          have FN : Hid _ := FQ.out (z.alloc (.cells #[.int .u8 (j : Int), .int .u8 4, .int .u8 st] 58)) w9 g9 o9 cap9 (by repeat (first | exact Below.refl _ _ | apply Below.drew | apply Below.al)) hO hgg hK
          clear RUN hi hz0 hz1 hz2 le hO hgg hK FQ ev1 HT
          go_wp2_with (at_builtin; refine wpList_app_by rfl _ _ 64 rfl u5 (.slice (some ⟨z.heap.size, 0, none⟩) 1 1) rfl rfl _ rr ?_)
          exact ⟨⟨j + 1, by omega, by go_num, FN.out⟩, by simp [intOf]; omega⟩
    · obtain rfl : j = 128 := by omega
      go_wp2_with fail
      go_ret
      exact ⟨u5, rfl, HT.out⟩
#print axioms rtick_ok
end Go.Proofs.Ytjdfacjfpdfafaa
