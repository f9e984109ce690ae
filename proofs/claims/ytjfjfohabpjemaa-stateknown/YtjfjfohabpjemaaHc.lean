/-
  The walks of Commanded, the program's and the document's.
-/
import Derived.Test.YtjfjfohabpjemaaHb
namespace Go.Proofs.Ytjfjfohabpjemaa
open Go.RowKit

/-- Is it a command's frame? -/
def cdB (i n d0 d1 d2 d3 d4 d5 d6 d7 : Int) (r : Bool) : Bool := sameF i n d0 d1 d2 d3 d4 d5 d6 d7 r 0 2 d0 d1 0 0 0 0 0 0 false && mayC d0 d1

theorem cdB_doc (i n d0 d1 d2 d3 d4 d5 d6 d7 : Int) (r : Bool) : (rightB i n [d0, d1, d2, d3, d4, d5, d6, d7] r = true ∧ i = 0 ∧ n = 2 ∧ r = false ∧ cmdB d0 = true ∧ d1 ≤ 127) ↔ cdB i n d0 d1 d2 d3 d4 d5 d6 d7 r = true := by
  constructor
  · rintro ⟨h, rfl, rfl, rfl, hc, ha⟩
    rw [rightB_ok _ _ _ _ (by decide)] at h
    simp [List.range, List.range.loop, okB, zb] at h
    obtain ⟨h2, h3, h4, h5, h6, h7⟩ := h
    subst h2 h3 h4 h5 h6 h7
    simp [cdB, sameF_self, mayC, hc, ha]
  · intro h
    simp [cdB, sameF, same8, mayC] at h
    obtain ⟨⟨rfl, rfl, ⟨rfl, rfl, rfl, rfl, rfl, rfl⟩, rfl⟩, hc, ha⟩ := h
    refine ⟨?_, rfl, rfl, rfl, hc, ha⟩
    rw [rightB_ok _ _ _ _ (by decide)]
    simp [List.range, List.range.loop, okB, zb]

set_option linter.unusedSimpArgs false in
set_option maxHeartbeats 4000000 in
set_option maxRecDepth 100000 in
theorem commanded_no (i n d0 d1 d2 d3 d4 d5 d6 d7 : Int) (r : Bool) (ho : Oct [d0, d1, d2, d3, d4, d5, d6, d7]) (h : cdB i n d0 d1 d2 d3 d4 d5 d6 d7 r = false) (w : World) : Calls Try.prog 17 #[frV i n d0 d1 d2 d3 d4 d5 d6 d7 r] w fun e w' => e = .returned (.tuple #[.int .u8 0, .int .u8 0, .bool false]) ∧ Below w.heap.size w w' := by
  have o0 := ho d0 (by simp)
  have o1 := ho d1 (by simp)
  clear ho
  cases hm : mayC d0 d1 with
  | false =>
    have CM := fun W => command_no d0 d1 hm W
    clear h hm o0 o1
    go_enter Try.func17, Try.ntmps17
    go_wp2_with fail
    go_quiet (fail)
    obtain ⟨x, hx⟩ : ∃ x, x = (w.alloc (.cells (frC i n d0 d1 d2 d3 d4 d5 d6 d7 r) 36)).drewN nq := ⟨_, rfl⟩
    rw [← hx]
    have B0 : Below w.heap.size w x := by rw [hx]; exact below_drewN (by repeat (first | exact Below.refl _ _ | apply Below.drew | apply Below.al)) nq
    have F0 : x.heap[w.heap.size]? = some (.cells (frC i n d0 d1 d2 d3 d4 d5 d6 d7 r) 36 (0, 0)) := by rw [hx]; exact blk11 (below_drewN (Below.refl _ _) nq) (heap_new _ _)
    clear hx
    go_wp2_with fail
    refine (CM _).mono ?_
    rintro e w1 ⟨rfl, hb⟩
    have B1 : Below w.heap.size w w1 := Below.andThen B0 hb
    have FB := blk11 hb F0
    obtain ⟨f0, f1, f2, f3, f4, f5, f6, f7, f8, f9, f10⟩ := frC_at FB
    have lf : w.heap.size < w1.heap.size := lt_of_heap FB
    clear hb CM FB F0 B0
    go_wp2_with fail
    exact bodyPost_ret (v := .tuple #[.int .u8 0, .int .u8 0, .bool false]) (by simp [results, Try.results17, go_sem]) rfl ⟨rfl, Below.al B1 _⟩
  | true =>
    have CM := fun W => command_ok d0 d1 hm o0 o1 W
    have hs : sameF i n d0 d1 d2 d3 d4 d5 d6 d7 r 0 2 d0 d1 0 0 0 0 0 0 false = false := by simpa [cdB, hm] using h
    have hq := fun W => neqF W i n d0 d1 d2 d3 d4 d5 d6 d7 r 0 2 d0 d1 0 0 0 0 0 0 false
    simp only [hs] at hq
    clear h hm o0 o1 hs
    go_enter Try.func17, Try.ntmps17
    go_wp2_with fail
    go_quiet (fail)
    obtain ⟨x, hx⟩ : ∃ x, x = (w.alloc (.cells (frC i n d0 d1 d2 d3 d4 d5 d6 d7 r) 36)).drewN nq := ⟨_, rfl⟩
    rw [← hx]
    have B0 : Below w.heap.size w x := by rw [hx]; exact below_drewN (by repeat (first | exact Below.refl _ _ | apply Below.drew | apply Below.al)) nq
    have F0 : x.heap[w.heap.size]? = some (.cells (frC i n d0 d1 d2 d3 d4 d5 d6 d7 r) 36 (0, 0)) := by rw [hx]; exact blk11 (below_drewN (Below.refl _ _) nq) (heap_new _ _)
    clear hx
    go_wp2_with fail
    refine (CM _).mono ?_
    rintro e w1 ⟨rfl, hb⟩
    have B1 : Below w.heap.size w w1 := Below.andThen B0 hb
    have FB := blk11 hb F0
    obtain ⟨f0, f1, f2, f3, f4, f5, f6, f7, f8, f9, f10⟩ := frC_at FB
    have lf : w.heap.size < w1.heap.size := lt_of_heap FB
    clear hb CM FB F0 B0
    go_wp2_with fail
    exact bodyPost_ret (v := .tuple #[.int .u8 0, .int .u8 0, .bool false]) (by simp [results, Try.results17, go_sem]) rfl ⟨rfl, Below.al B1 _⟩

set_option linter.unusedSimpArgs false in
set_option maxHeartbeats 4000000 in
set_option maxRecDepth 100000 in
theorem commanded_yes (i n d0 d1 d2 d3 d4 d5 d6 d7 : Int) (r : Bool) (ho : Oct [d0, d1, d2, d3, d4, d5, d6, d7]) (h : cdB i n d0 d1 d2 d3 d4 d5 d6 d7 r = true) (w : World) : Calls Try.prog 17 #[frV i n d0 d1 d2 d3 d4 d5 d6 d7 r] w fun e w' => e = .returned (.tuple #[.int .u8 d0, .int .u8 d1, .bool true]) ∧ Below w.heap.size w w' := by
  have o0 := ho d0 (by simp)
  have o1 := ho d1 (by simp)
  clear ho
  obtain ⟨hs, hm⟩ : sameF i n d0 d1 d2 d3 d4 d5 d6 d7 r 0 2 d0 d1 0 0 0 0 0 0 false = true ∧ mayC d0 d1 = true := by simpa [cdB] using h
  have CM := fun W => command_ok d0 d1 hm o0 o1 W
  have hq := fun W => neqF W i n d0 d1 d2 d3 d4 d5 d6 d7 r 0 2 d0 d1 0 0 0 0 0 0 false
  simp only [hs] at hq
  clear h hm o0 o1 hs
  go_enter Try.func17, Try.ntmps17
  go_wp2_with fail
  go_quiet (fail)
  obtain ⟨x, hx⟩ : ∃ x, x = (w.alloc (.cells (frC i n d0 d1 d2 d3 d4 d5 d6 d7 r) 36)).drewN nq := ⟨_, rfl⟩
  rw [← hx]
  have B0 : Below w.heap.size w x := by rw [hx]; exact below_drewN (by repeat (first | exact Below.refl _ _ | apply Below.drew | apply Below.al)) nq
  have F0 : x.heap[w.heap.size]? = some (.cells (frC i n d0 d1 d2 d3 d4 d5 d6 d7 r) 36 (0, 0)) := by rw [hx]; exact blk11 (below_drewN (Below.refl _ _) nq) (heap_new _ _)
  clear hx
  go_wp2_with fail
  refine (CM _).mono ?_
  rintro e w1 ⟨rfl, hb⟩
  have B1 : Below w.heap.size w w1 := Below.andThen B0 hb
  have FB := blk11 hb F0
  obtain ⟨f0, f1, f2, f3, f4, f5, f6, f7, f8, f9, f10⟩ := frC_at FB
  have lf : w.heap.size < w1.heap.size := lt_of_heap FB
  clear hb CM FB F0 B0
  go_wp2_with fail
  exact bodyPost_ret (v := .tuple #[.int .u8 d0, .int .u8 d1, .bool true]) (by simp [results, Try.results17, go_sem]) rfl ⟨rfl, Below.al B1 _⟩

set_option linter.unusedSimpArgs false in
set_option maxHeartbeats 4000000 in
set_option maxRecDepth 100000 in
theorem rcommanded_no (i n d0 d1 d2 d3 d4 d5 d6 d7 : Int) (r : Bool) (h : cdB i n d0 d1 d2 d3 d4 d5 d6 d7 r = false) (w : World) : Calls Try.prog 18 #[frV i n d0 d1 d2 d3 d4 d5 d6 d7 r] w fun e w' => e = .returned (.tuple #[.int .u8 0, .int .u8 0, .bool false]) ∧ Below w.heap.size w w' := by
  have RR := fun W => refRight_any i n d0 d1 d2 d3 d4 d5 d6 d7 r W
  have CC := fun W => isCommand_any d0 W
  have K : Hid (¬ (rightB i n [d0, d1, d2, d3, d4, d5, d6, d7] r = true ∧ i = 0 ∧ n = 2 ∧ r = false ∧ cmdB d0 = true ∧ d1 ≤ 127)) := by
    show ¬ _
    rw [cdB_doc, h]; decide
  clear h
  cases hr : rightB i n [d0, d1, d2, d3, d4, d5, d6, d7] r with
  | false =>
    rw [hr] at RR
    clear K hr
    go_enter Try.func18, Try.ntmps18
    go_wp2_with fail
    refine (RR _).mono ?_
    rintro e w1 ⟨rfl, hb⟩
    have B1 : Below w.heap.size w w1 := Below.andThen (by repeat (first | exact Below.refl _ _ | apply Below.drew | apply Below.al)) hb
    clear hb RR CC
    go_wp2_with fail
    exact bodyPost_ret (v := .tuple #[.int .u8 0, .int .u8 0, .bool false]) (by simp [results, Try.results18, go_sem]) rfl ⟨rfl, B1⟩
  | true =>
    rw [hr] at RR
    have K := fun h1 h2 h3 h4 h5 => K.out ⟨hr, h1, h2, h3, h4, h5⟩
    have K : Hid (i = 0 → n = 2 → r = false → cmdB d0 = true → d1 ≤ 127 → False) := K
    clear hr
    go_enter Try.func18, Try.ntmps18
    go_wp2_with fail
    refine (RR _).mono ?_
    rintro e w1 ⟨rfl, hb⟩
    have B1 : Below w.heap.size w w1 := Below.andThen (by repeat (first | exact Below.refl _ _ | apply Below.drew | apply Below.al)) hb
    have FB : w1.heap[w.heap.size]? = some (.cells (frC i n d0 d1 d2 d3 d4 d5 d6 d7 r) 36 (0, 0)) := (hb.block _ (by first | (simp; done) | (simp; omega))).trans (by repeat (first | exact at11 _ _ _ (by simp) | assumption | refine ext11 ?_))
    obtain ⟨f0, f1, f2, f3, f4, f5, f6, f7, f8, f9, f10⟩ := frC_at FB
    clear hb RR FB
    by_cases h1 : i = 0
    · by_cases h2 : n = 2
      · cases r with
        | true =>
          clear K
          go_wp2_with fail
          exact bodyPost_ret (v := .tuple #[.int .u8 0, .int .u8 0, .bool false]) (by simp [results, Try.results18, go_sem]) rfl ⟨rfl, B1⟩
        | false =>
          cases hc : cmdB d0 with
          | false =>
            rw [hc] at CC
            clear K hc
            go_wp2_with fail
            refine (CC _).mono ?_
            rintro e w2 ⟨rfl, rfl⟩
            go_wp2_with fail
            exact bodyPost_ret (v := .tuple #[.int .u8 0, .int .u8 0, .bool false]) (by simp [results, Try.results18, go_sem]) rfl ⟨rfl, B1⟩
          | true =>
            rw [hc] at CC
            have ha : 127 < d1 := by
              by_cases h5 : d1 ≤ 127
              · exact (K.out h1 h2 rfl hc h5).elim
              · omega
            clear K hc
            go_wp2_with fail
            refine (CC _).mono ?_
            rintro e w2 ⟨rfl, rfl⟩
            go_wp2_with fail
            exact bodyPost_ret (v := .tuple #[.int .u8 0, .int .u8 0, .bool false]) (by simp [results, Try.results18, go_sem]) rfl ⟨rfl, B1⟩
      · clear K
        go_wp2_with fail
        exact bodyPost_ret (v := .tuple #[.int .u8 0, .int .u8 0, .bool false]) (by simp [results, Try.results18, go_sem]) rfl ⟨rfl, B1⟩
    · clear K
      go_wp2_with fail
      exact bodyPost_ret (v := .tuple #[.int .u8 0, .int .u8 0, .bool false]) (by simp [results, Try.results18, go_sem]) rfl ⟨rfl, B1⟩

set_option linter.unusedSimpArgs false in
set_option maxHeartbeats 4000000 in
set_option maxRecDepth 100000 in
theorem rcommanded_yes (i n d0 d1 d2 d3 d4 d5 d6 d7 : Int) (r : Bool) (h : cdB i n d0 d1 d2 d3 d4 d5 d6 d7 r = true) (w : World) : Calls Try.prog 18 #[frV i n d0 d1 d2 d3 d4 d5 d6 d7 r] w fun e w' => e = .returned (.tuple #[.int .u8 d0, .int .u8 d1, .bool true]) ∧ Below w.heap.size w w' := by
  have RR := fun W => refRight_any i n d0 d1 d2 d3 d4 d5 d6 d7 r W
  have CC := fun W => isCommand_any d0 W
  obtain ⟨hr, rfl, rfl, rfl, hc, ha⟩ := (cdB_doc i n d0 d1 d2 d3 d4 d5 d6 d7 r).2 h
  rw [hr] at RR
  rw [hc] at CC
  clear hr hc h
  go_enter Try.func18, Try.ntmps18
  go_wp2_with fail
  refine (RR _).mono ?_
  rintro e w1 ⟨rfl, hb⟩
  have B1 : Below w.heap.size w w1 := Below.andThen (by repeat (first | exact Below.refl _ _ | apply Below.drew | apply Below.al)) hb
  have FB : w1.heap[w.heap.size]? = some (.cells (frC 0 2 d0 d1 d2 d3 d4 d5 d6 d7 false) 36 (0, 0)) := (hb.block _ (by first | (simp; done) | (simp; omega))).trans (by repeat (first | exact at11 _ _ _ (by simp) | assumption | refine ext11 ?_))
  obtain ⟨f0, f1, f2, f3, f4, f5, f6, f7, f8, f9, f10⟩ := frC_at FB
  clear hb RR FB
  go_wp2_with fail
  refine (CC _).mono ?_
  rintro e w2 ⟨rfl, rfl⟩
  go_wp2_with fail
  go_quiet (fail)
  go_wp2_with fail
  exact bodyPost_ret (v := .tuple #[.int .u8 d0, .int .u8 d1, .bool true]) (by simp [results, Try.results18, go_sem]) rfl ⟨rfl, below_drewN B1 nq⟩
#print axioms rcommanded_yes
end Go.Proofs.Ytjfjfohabpjemaa
