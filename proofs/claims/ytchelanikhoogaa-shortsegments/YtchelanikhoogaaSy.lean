/-
  The walks of Asked and Answered.
-/
import Derived.Test.YtchelanikhoogaaSx
namespace Go.Proofs.Ytchelanikhoogaa
open Go.RowKit

/-- The command of the bytes, of one side. -/
def askedP (y : B8) : Option Cm := if askP (askR y) = some y then some (askR y) else none
def answeredP (y : B8) : Option Cm := if ansP (ansR y) = some y then some (ansR y) else none
theorem rdBare_ok (x : B8) (ok : x.Ok) (k : Int) (hk : 0 ≤ k ∧ k < 256) : ({ rdBare x.b0 x.b1 x.b2 x.b3 x.b4 x.b5 x.b6 x.b7 with k := k } : Cm).Ok := by
  obtain ⟨⟨_, _⟩, ⟨_, _⟩, ⟨_, _⟩, ⟨_, _⟩, ⟨_, _⟩, ⟨_, _⟩, ⟨_, _⟩, ⟨_, _⟩⟩ := ok
  constructor <;> simp only [rdBare]
  all_goals first | exact hk | exact oct_nil | omega
theorem rdPlace_ok (x : B8) (ok : x.Ok) (k : Int) (hk : 0 ≤ k ∧ k < 256) : ({ rdPlace x.b0 x.b1 x.b2 x.b3 x.b4 x.b5 x.b6 x.b7 with k := k } : Cm).Ok := by
  obtain ⟨⟨_, _⟩, ⟨_, _⟩, ⟨_, _⟩, ⟨_, _⟩, ⟨_, _⟩, ⟨_, _⟩, ⟨_, _⟩, ⟨_, _⟩⟩ := ok
  constructor <;> simp only [rdPlace]
  all_goals first | exact hk | exact oct_nil | omega
theorem rdToggle_ok (x : B8) (ok : x.Ok) (k : Int) (hk : 0 ≤ k ∧ k < 256) : ({ rdToggle x.b0 x.b1 x.b2 x.b3 x.b4 x.b5 x.b6 x.b7 with k := k } : Cm).Ok := by
  obtain ⟨⟨_, _⟩, ⟨_, _⟩, ⟨_, _⟩, ⟨_, _⟩, ⟨_, _⟩, ⟨_, _⟩, ⟨_, _⟩, ⟨_, _⟩⟩ := ok
  constructor <;> simp only [rdToggle]
  all_goals first | exact hk | exact oct_nil | omega
theorem rdAck_ok (x : B8) (ok : x.Ok) (k : Int) (hk : 0 ≤ k ∧ k < 256) : ({ rdAck x.b0 x.b1 x.b2 x.b3 x.b4 x.b5 x.b6 x.b7 with k := k } : Cm).Ok := by
  obtain ⟨⟨_, _⟩, ⟨_, _⟩, ⟨_, _⟩, ⟨_, _⟩, ⟨_, _⟩, ⟨_, _⟩, ⟨_, _⟩, ⟨_, _⟩⟩ := ok
  constructor <;> simp only [rdAck]
  all_goals first | exact hk | exact oct_nil | omega
theorem rdBlock_ok (x : B8) (ok : x.Ok) (k : Int) (hk : 0 ≤ k ∧ k < 256) : ({ rdBlock x.b0 x.b1 x.b2 x.b3 x.b4 x.b5 x.b6 x.b7 with k := k } : Cm).Ok := by
  obtain ⟨⟨_, _⟩, ⟨_, _⟩, ⟨_, _⟩, ⟨_, _⟩, ⟨_, _⟩, ⟨_, _⟩, ⟨_, _⟩, ⟨_, _⟩⟩ := ok
  constructor <;> simp only [rdBlock]
  all_goals first | exact hk | exact oct_nil | omega
theorem rdStop_ok (x : B8) (ok : x.Ok) (k : Int) (hk : 0 ≤ k ∧ k < 256) : ({ rdStop x.b0 x.b1 x.b2 x.b3 x.b4 x.b5 x.b6 x.b7 with k := k } : Cm).Ok := by
  obtain ⟨⟨_, _⟩, ⟨_, _⟩, ⟨_, _⟩, ⟨_, _⟩, ⟨_, _⟩, ⟨_, _⟩, ⟨_, _⟩, ⟨_, _⟩⟩ := ok
  constructor <;> simp only [rdStop]
  all_goals first | exact hk | exact oct_nil | omega
theorem rdEnd_ok (x : B8) (ok : x.Ok) (k : Int) (hk : 0 ≤ k ∧ k < 256) : ({ rdEnd x.b0 x.b1 x.b2 x.b3 x.b4 x.b5 x.b6 x.b7 with k := k } : Cm).Ok := by
  obtain ⟨⟨_, _⟩, ⟨_, _⟩, ⟨_, _⟩, ⟨_, _⟩, ⟨_, _⟩, ⟨_, _⟩, ⟨_, _⟩, ⟨_, _⟩⟩ := ok
  have h9 := and8 (x.b0 / 4) 7 (by omega) (by omega)
  constructor <;> simp only [rdEnd]
  all_goals first | exact hk | exact oct_nil | omega
theorem rdSize_ok (x : B8) (ok : x.Ok) (k : Int) (hk : 0 ≤ k ∧ k < 256) : ({ rdSize x.b0 x.b1 x.b2 x.b3 x.b4 x.b5 x.b6 x.b7 with k := k } : Cm).Ok := by
  obtain ⟨⟨_, _⟩, ⟨_, _⟩, ⟨_, _⟩, ⟨_, _⟩, ⟨_, _⟩, ⟨_, _⟩, ⟨_, _⟩, ⟨_, _⟩⟩ := ok
  constructor <;> simp only [rdSize]
  all_goals first | exact hk | exact oct_nil | omega | (split <;> omega)
theorem rdBegin_ok (x : B8) (ok : x.Ok) (k : Int) (hk : 0 ≤ k ∧ k < 256) : ({ rdBegin x.b0 x.b1 x.b2 x.b3 x.b4 x.b5 x.b6 x.b7 with k := k } : Cm).Ok := by
  obtain ⟨⟨_, _⟩, ⟨_, _⟩, ⟨_, _⟩, ⟨_, _⟩, ⟨_, _⟩, ⟨_, _⟩, ⟨_, _⟩, ⟨_, _⟩⟩ := ok
  constructor <;> simp only [rdBegin]
  all_goals first | exact hk | exact oct_nil | omega | (split <;> omega) | (split <;> (try split) <;> omega) | (split; exact Oct.take (fun n hn => by simp only [List.mem_cons, List.not_mem_nil, or_false] at hn; omega) _; exact oct_nil)
theorem rdPart_ok (x : B8) (ok : x.Ok) (k : Int) (hk : 0 ≤ k ∧ k < 256) : ({ rdPart x.b0 x.b1 x.b2 x.b3 x.b4 x.b5 x.b6 x.b7 with k := k } : Cm).Ok := by
  obtain ⟨⟨_, _⟩, ⟨_, _⟩, ⟨_, _⟩, ⟨_, _⟩, ⟨_, _⟩, ⟨_, _⟩, ⟨_, _⟩, ⟨_, _⟩⟩ := ok
  constructor <;> simp only [rdPart]
  all_goals first | exact hk | exact oct_nil | omega | exact Oct.take (fun n hn => by simp only [List.mem_cons, List.not_mem_nil, or_false] at hn; omega) _
theorem askR_ok (x : B8) (ok : x.Ok) : (askR x).Ok := by
  unfold askR
  by_cases h0 : bits .andNot .u8 x.b0 15 = 32
  · rw [if_pos h0]; exact rdBegin_ok x ok 1 (by decide)
  rw [if_neg h0]
  by_cases h1 : bits .andNot .u8 x.b0 31 = 0
  · rw [if_pos h1]; exact rdPart_ok x ok 2 (by decide)
  rw [if_neg h1]
  by_cases h2 : bits .andNot .u8 x.b0 0 = 64
  · rw [if_pos h2]; exact rdPlace_ok x ok 3 (by decide)
  rw [if_neg h2]
  by_cases h3 : bits .andNot .u8 x.b0 16 = 96
  · rw [if_pos h3]; exact rdToggle_ok x ok 4 (by decide)
  rw [if_neg h3]
  by_cases h4 : bits .andNot .u8 x.b0 0 = 128
  · rw [if_pos h4]; exact rdStop_ok x ok 5 (by decide)
  rw [if_neg h4]
  by_cases h5 : bits .andNot .u8 x.b0 6 = 192
  · rw [if_pos h5]; exact rdSize_ok x ok 6 (by decide)
  rw [if_neg h5]
  by_cases h6 : bits .andNot .u8 x.b0 28 = 193
  · rw [if_pos h6]; exact rdEnd_ok x ok 7 (by decide)
  rw [if_neg h6]
  by_cases h7 : bits .andNot .u8 x.b0 4 = 160
  · rw [if_pos h7]; exact rdBlock_ok x ok 8 (by decide)
  rw [if_neg h7]
  by_cases h8 : bits .andNot .u8 x.b0 0 = 163
  · rw [if_pos h8]; exact rdBare_ok x ok 9 (by decide)
  rw [if_neg h8]
  by_cases h9 : bits .andNot .u8 x.b0 0 = 162
  · rw [if_pos h9]; exact rdAck_ok x ok 10 (by decide)
  rw [if_neg h9]
  by_cases h10 : bits .andNot .u8 x.b0 0 = 161
  · rw [if_pos h10]; exact rdBare_ok x ok 11 (by decide)
  rw [if_neg h10]
  exact rdBare_ok x ok 0 (by decide)
theorem ansR_ok (x : B8) (ok : x.Ok) : (ansR x).Ok := by
  unfold ansR
  by_cases h0 : bits .andNot .u8 x.b0 0 = 96
  · rw [if_pos h0]; exact rdPlace_ok x ok 1 (by decide)
  rw [if_neg h0]
  by_cases h1 : bits .andNot .u8 x.b0 16 = 32
  · rw [if_pos h1]; exact rdToggle_ok x ok 2 (by decide)
  rw [if_neg h1]
  by_cases h2 : bits .andNot .u8 x.b0 15 = 64
  · rw [if_pos h2]; exact rdBegin_ok x ok 3 (by decide)
  rw [if_neg h2]
  by_cases h3 : bits .andNot .u8 x.b0 31 = 0
  · rw [if_pos h3]; exact rdPart_ok x ok 4 (by decide)
  rw [if_neg h3]
  by_cases h4 : bits .andNot .u8 x.b0 0 = 128
  · rw [if_pos h4]; exact rdStop_ok x ok 5 (by decide)
  rw [if_neg h4]
  by_cases h5 : bits .andNot .u8 x.b0 4 = 160
  · rw [if_pos h5]; exact rdBlock_ok x ok 6 (by decide)
  rw [if_neg h5]
  by_cases h6 : bits .andNot .u8 x.b0 0 = 162
  · rw [if_pos h6]; exact rdAck_ok x ok 10 (by decide)
  rw [if_neg h6]
  by_cases h7 : bits .andNot .u8 x.b0 0 = 161
  · rw [if_pos h7]; exact rdBare_ok x ok 7 (by decide)
  rw [if_neg h7]
  by_cases h8 : bits .andNot .u8 x.b0 6 = 192
  · rw [if_pos h8]; exact rdSize_ok x ok 8 (by decide)
  rw [if_neg h8]
  by_cases h9 : bits .andNot .u8 x.b0 28 = 193
  · rw [if_pos h9]; exact rdEnd_ok x ok 11 (by decide)
  rw [if_neg h9]
  exact rdBare_ok x ok 0 (by decide)
#print axioms askR_ok

set_option linter.unusedSimpArgs false in
set_option maxHeartbeats 4000000 in
set_option maxRecDepth 100000 in
theorem asked_any (y : B8) (ok : y.Ok) (w : World) :
    Calls Try.prog 15 #[arr8 y.b0 y.b1 y.b2 y.b3 y.b4 y.b5 y.b6 y.b7] w (CPost w (askedP y)) := by
  have HB : Hid (∀ (W : World) (g : Nat), g = W.heap.size → Calls Try.prog 27 #[.slice (some ⟨g, 0, none⟩) 11 11, arr8 y.b0 y.b1 y.b2 y.b3 y.b4 y.b5 y.b6 y.b7] (W.alloc (.cells (askT.flatMap Ln.c).toArray 72)) (CPost (W.alloc (.cells (askT.flatMap Ln.c).toArray 72)) (askedP y))) := fun W g hg => by
    subst hg
    exact commandOf_any W.heap.size 11 y (askR y) (askP (askR y)) _ (fun W' hb => askC_any _ y ok _ ((IsT.new W askT).next hb)) (fun W' a cap hb hr => askB_any _ (askR y) (askR_ok y ok) a cap W' ((IsT.new W askT).next hb) hr)
  generalize askedP y = R at HB ⊢
  generalize hT : (.cells (askT.flatMap Ln.c).toArray 72 : Obj) = TT at HB
  have HA : Hid (∀ W, Calls Try.prog 23 #[] W fun e w' => e = .returned (.slice (some ⟨W.heap.size, 0, none⟩) 11 11) ∧ w' = W.alloc TT) := fun W => by rw [← hT]; exact asks_any W
  clear hT ok
  obtain ⟨b0, b1, b2, b3, b4, b5, b6, b7⟩ := y
  dsimp only at HB ⊢
  have HS0 : Hid (Below w.heap.size w ((w.alloc (.cells (ar8 b0 b1 b2 b3 b4 b5 b6 b7) 31)).alloc (.cells (cmC 0 0 0 false 0 false none 0 0 false false false 0 0 0 0 0) 29)) ∧ ((w.alloc (.cells (ar8 b0 b1 b2 b3 b4 b5 b6 b7) 31)).alloc (.cells (cmC 0 0 0 false 0 false none 0 0 false false false 0 0 0 0 0) 29)).heap[w.heap.size]? = some (.cells (ar8 b0 b1 b2 b3 b4 b5 b6 b7) 31 (0, 0)) ∧ ((w.alloc (.cells (ar8 b0 b1 b2 b3 b4 b5 b6 b7) 31)).alloc (.cells (cmC 0 0 0 false 0 false none 0 0 false false false 0 0 0 0 0) 29)).heap[w.heap.size + 1]? = some (.cells (cmC 0 0 0 false 0 false none 0 0 false false false 0 0 0 0 0) 29 (0, 0))) := ⟨(by repeat (first | exact Below.refl _ _ | apply Below.drew | apply Below.al)), (by repeat (first | exact heap_at _ _ _ (by simp) | rw [heap_drew] | rw [Below.heap_alloc _ _ _ (by first | (simp; done) | (simp; omega))])), (by repeat (first | exact heap_at _ _ _ (by simp) | rw [heap_drew] | rw [Below.heap_alloc _ _ _ (by first | (simp; done) | (simp; omega))]))⟩
  cases R with
  | none =>
    go_enter Try.func15, Try.ntmps15
    go_wp2_with fail
    refine wp_region_held_drew (S := fun x => Below w.heap.size w x ∧ x.heap[w.heap.size]? = some (.cells (ar8 b0 b1 b2 b3 b4 b5 b6 b7) 31 (0, 0)) ∧ ∃ C : Array Value, C.size = 15 ∧ x.heap[w.heap.size + 1]? = some (.cells C 29 (0, 0))) (by kernel_rfl) (⟨Below.drew HS0.out.1, HS0.out.2.1, _, rfl, HS0.out.2.2⟩) (fun hHeld => ?_)
    refine wpAnyH_take (i := 1) (v := (arr8 b0 b1 b2 b3 b4 b5 b6 b7)) rfl (by kernel_rfl) (by kernel_rfl) (by kernel_rfl) (fun _ _ _ h => h) (Or.inl ⟨by rfl, ?_⟩) (by assumption) ?_
    · intro w9 hSw
      try dsimp only at hSw
      obtain ⟨_, hbx, _⟩ := hSw
      exact ex_load 31 (.tmp 1) rfl _ _ rfl (load8 _ _ _ _ _ _ _ _ _ _ _ hbx)
    try simp only [Act.put, List.getElem_toArray, List.getElem_cons_succ, List.getElem_cons_zero, List.setIfInBounds_toArray, List.set_cons_zero, List.set_cons_succ]
    refine wpAnyH_ready (rs := [0]) (by kernel_rfl) (by simp) ?_
    refine AllReadyH.cons rfl (fun K' hK => ?_) AllReadyH.nil
    rw [if_pos (by rfl)]
    simp only [List.getElem_toArray, List.getElem_cons_succ, List.getElem_cons_zero]
    go_wp2_with fail
    refine (HA.out _).mono ?_
    rintro r w1 ⟨rfl, rfl⟩
    try go_wp2_with fail
    refine hK.out _ _ (⟨Below.al (Below.drew HS0.out.1) _, (Below.heap_alloc _ _ _ (by first | (simp; done) | (simp; omega))).trans HS0.out.2.1, _, rfl, (Below.heap_alloc _ _ _ (by simp)).trans HS0.out.2.2⟩) (fun hHeld => ?_)
    clear hK K'
    try simp only [Act.put, List.getElem_toArray, List.getElem_cons_succ, List.getElem_cons_zero, List.setIfInBounds_toArray, List.set_cons_zero, List.set_cons_succ]
    refine wpAnyH_ready (rs := [2]) (by kernel_rfl) (by simp) ?_
    refine AllReadyH.cons rfl (fun K' hK => ?_) AllReadyH.nil
    rw [if_pos (by rfl)]
    simp only [List.getElem_toArray, List.getElem_cons_succ, List.getElem_cons_zero]
    go_wp2_with fail
    refine (HB.out (((w.alloc (.cells (ar8 b0 b1 b2 b3 b4 b5 b6 b7) 31)).alloc (.cells (cmC 0 0 0 false 0 false none 0 0 false false false 0 0 0 0 0) 29))).drew _ (by simp)).mono ?_
    rintro r w2 ⟨rfl, hb⟩
    have B2 : Hid (Below w.heap.size w w2) := Below.andThen (Below.al (Below.drew HS0.out.1) _) hb
    have g1 : Hid (w2.heap[w.heap.size]? = some (.cells (ar8 b0 b1 b2 b3 b4 b5 b6 b7) 31 (0, 0))) := (hb.block _ (by first | (simp; done) | (simp; omega))).trans ((Below.heap_alloc _ _ _ (by first | (simp; done) | (simp; omega))).trans HS0.out.2.1)
    have g2 : Hid (w2.heap[w.heap.size + 1]? = some (.cells (cmC 0 0 0 false 0 false none 0 0 false false false 0 0 0 0 0) 29 (0, 0))) := (hb.block _ (by first | (simp; done) | (simp; omega))).trans ((Below.heap_alloc _ _ _ (by simp)).trans HS0.out.2.2)
    clear hb
    try go_wp2_with fail
    refine hK.out _ _ (⟨B2.out, g1.out, _, rfl, g2.out⟩) (fun hHeld => ?_)
    clear hK K'
    try simp only [Act.put, List.getElem_toArray, List.getElem_cons_succ, List.getElem_cons_zero, List.setIfInBounds_toArray, List.set_cons_zero, List.set_cons_succ]
    refine wpAnyH_take (i := 3) (v := (cmV 0 0 0 false 0 false none 0 0 false false false 0 0 0 0 0)) rfl (by kernel_rfl) (by kernel_rfl) (by kernel_rfl) (fun _ _ _ h => h) (Or.inl ⟨by rfl, ?_⟩) (by assumption) ?_
    · intro w9 hSw
      try dsimp only at hSw
      go_simp
      all_goals try decide
      all_goals try assumption
      all_goals try omega
    try simp only [Act.put, List.getElem_toArray, List.getElem_cons_succ, List.getElem_cons_zero, List.setIfInBounds_toArray, List.set_cons_zero, List.set_cons_succ]
    refine wpAnyH_take (i := 4) (v := (.int .i64 11)) rfl (by kernel_rfl) (by kernel_rfl) (by kernel_rfl) (fun _ _ _ h => h) (Or.inl ⟨by rfl, ?_⟩) (by assumption) ?_
    · intro w9 hSw
      try dsimp only at hSw
      go_simp
      all_goals try decide
      all_goals try assumption
      all_goals try omega
    try simp only [Act.put, List.getElem_toArray, List.getElem_cons_succ, List.getElem_cons_zero, List.setIfInBounds_toArray, List.set_cons_zero, List.set_cons_succ]
    refine wpAnyH_ready (rs := [5]) (by kernel_rfl) (by simp) ?_
    refine AllReadyH.cons rfl (fun K' hK => ?_) AllReadyH.nil
    rw [if_pos (by rfl)]
    simp only [List.getElem_toArray, List.getElem_cons_succ, List.getElem_cons_zero]
    refine wp_store_by 29 (.tmp 2) (.tmp 7) rfl _ _ rfl rfl (storeCM _ _ _ 0 0 0 false 0 false none 0 0 false false false 0 0 0 0 0 _ g2.out rfl) ?_
    refine hK.out _ _ (⟨below_setRow B2.out (Nat.le_succ _) _, (setRow_other _ _ _ _ (by omega)).trans g1.out, _, rfl, setRow_heap _ _ _ _ _ _ g2.out⟩) (fun hHeld => ?_)
    clear hK K'
    try simp only [Act.put, List.getElem_toArray, List.getElem_cons_succ, List.getElem_cons_zero, List.setIfInBounds_toArray, List.set_cons_zero, List.set_cons_succ]
    refine wpAnyH_take (i := 6) (v := (.int .i64 11)) rfl (by kernel_rfl) (by kernel_rfl) (by kernel_rfl) (fun _ _ _ h => h) (Or.inl ⟨by rfl, ?_⟩) (by assumption) ?_
    · intro w9 hSw
      try dsimp only at hSw
      go_simp
      all_goals try decide
      all_goals try assumption
      all_goals try omega
    try simp only [Act.put, List.getElem_toArray, List.getElem_cons_succ, List.getElem_cons_zero, List.setIfInBounds_toArray, List.set_cons_zero, List.set_cons_succ]
    refine wpAnyH_done (by kernel_rfl) ?_ _
    go_wp2_with fail
    have hc := fun j => cell_of_row (w2.setRow (w.heap.size + 1) (cmC 0 0 0 false 0 false none 0 0 false false false 0 0 0 0 0)) (w.heap.size + 1) j _ _ _ (setRow_heap _ _ _ _ _ _ g2.out)
    refine bodyPost_ret (v := .tuple #[cmV 0 0 0 false 0 false none 0 0 false false false 0 0 0 0 0, .int .i64 11]) ?_ rfl ?_
    · simp [results, Try.results15, go_sem, hc]
    · exact ⟨rfl, below_setRow B2.out (Nat.le_succ _) _⟩
  | some x =>
    obtain ⟨k, i, s, z, n, q, d, t, l, c, b, e, u, m, o⟩ := x
    go_enter Try.func15, Try.ntmps15
    go_wp2_with fail
    refine wp_region_held_drew (S := fun x => Below w.heap.size w x ∧ x.heap[w.heap.size]? = some (.cells (ar8 b0 b1 b2 b3 b4 b5 b6 b7) 31 (0, 0)) ∧ ∃ C : Array Value, C.size = 15 ∧ x.heap[w.heap.size + 1]? = some (.cells C 29 (0, 0))) (by kernel_rfl) (⟨Below.drew HS0.out.1, HS0.out.2.1, _, rfl, HS0.out.2.2⟩) (fun hHeld => ?_)
    refine wpAnyH_take (i := 1) (v := (arr8 b0 b1 b2 b3 b4 b5 b6 b7)) rfl (by kernel_rfl) (by kernel_rfl) (by kernel_rfl) (fun _ _ _ h => h) (Or.inl ⟨by rfl, ?_⟩) (by assumption) ?_
    · intro w9 hSw
      try dsimp only at hSw
      obtain ⟨_, hbx, _⟩ := hSw
      exact ex_load 31 (.tmp 1) rfl _ _ rfl (load8 _ _ _ _ _ _ _ _ _ _ _ hbx)
    try simp only [Act.put, List.getElem_toArray, List.getElem_cons_succ, List.getElem_cons_zero, List.setIfInBounds_toArray, List.set_cons_zero, List.set_cons_succ]
    refine wpAnyH_ready (rs := [0]) (by kernel_rfl) (by simp) ?_
    refine AllReadyH.cons rfl (fun K' hK => ?_) AllReadyH.nil
    rw [if_pos (by rfl)]
    simp only [List.getElem_toArray, List.getElem_cons_succ, List.getElem_cons_zero]
    go_wp2_with fail
    refine (HA.out _).mono ?_
    rintro r w1 ⟨rfl, rfl⟩
    try go_wp2_with fail
    refine hK.out _ _ (⟨Below.al (Below.drew HS0.out.1) _, (Below.heap_alloc _ _ _ (by first | (simp; done) | (simp; omega))).trans HS0.out.2.1, _, rfl, (Below.heap_alloc _ _ _ (by simp)).trans HS0.out.2.2⟩) (fun hHeld => ?_)
    clear hK K'
    try simp only [Act.put, List.getElem_toArray, List.getElem_cons_succ, List.getElem_cons_zero, List.setIfInBounds_toArray, List.set_cons_zero, List.set_cons_succ]
    refine wpAnyH_ready (rs := [2]) (by kernel_rfl) (by simp) ?_
    refine AllReadyH.cons rfl (fun K' hK => ?_) AllReadyH.nil
    rw [if_pos (by rfl)]
    simp only [List.getElem_toArray, List.getElem_cons_succ, List.getElem_cons_zero]
    go_wp2_with fail
    refine (HB.out (((w.alloc (.cells (ar8 b0 b1 b2 b3 b4 b5 b6 b7) 31)).alloc (.cells (cmC 0 0 0 false 0 false none 0 0 false false false 0 0 0 0 0) 29))).drew _ (by simp)).mono ?_
    rintro r w2 ⟨a, cap, rfl, ht, hb⟩
    have B2 : Hid (Below w.heap.size w w2) := Below.andThen (Below.al (Below.drew HS0.out.1) _) hb
    have g1 : Hid (w2.heap[w.heap.size]? = some (.cells (ar8 b0 b1 b2 b3 b4 b5 b6 b7) 31 (0, 0))) := (hb.block _ (by first | (simp; done) | (simp; omega))).trans ((Below.heap_alloc _ _ _ (by first | (simp; done) | (simp; omega))).trans HS0.out.2.1)
    have g2 : Hid (w2.heap[w.heap.size + 1]? = some (.cells (cmC 0 0 0 false 0 false none 0 0 false false false 0 0 0 0 0) 29 (0, 0))) := (hb.block _ (by first | (simp; done) | (simp; omega))).trans ((Below.heap_alloc _ _ _ (by simp)).trans HS0.out.2.2)
    dsimp only at ht ⊢
    obtain ⟨len, HL⟩ : ∃ len, Hid (d.length = len) := ⟨_, rfl⟩
    rw [HL.out] at ht ⊢
    have HT : Hid (Told w (w2.setRow (w.heap.size + 1) (cmC k i s z n q a len cap t l c b e u m o)) a len cap d) := ht.other (by simp; omega) (fun g hg => setRow_other _ _ _ _ (by simp at hg; omega))
    clear ht
    clear hb
    try go_wp2_with fail
    refine hK.out _ _ (⟨B2.out, g1.out, _, rfl, g2.out⟩) (fun hHeld => ?_)
    clear hK K'
    try simp only [Act.put, List.getElem_toArray, List.getElem_cons_succ, List.getElem_cons_zero, List.setIfInBounds_toArray, List.set_cons_zero, List.set_cons_succ]
    refine wpAnyH_take (i := 3) (v := (cmV k i s z n q a len cap t l c b e u m o)) rfl (by kernel_rfl) (by kernel_rfl) (by kernel_rfl) (fun _ _ _ h => h) (Or.inl ⟨by rfl, ?_⟩) (by assumption) ?_
    · intro w9 hSw
      try dsimp only at hSw
      go_simp
      all_goals try decide
      all_goals try assumption
      all_goals try omega
    try simp only [Act.put, List.getElem_toArray, List.getElem_cons_succ, List.getElem_cons_zero, List.setIfInBounds_toArray, List.set_cons_zero, List.set_cons_succ]
    refine wpAnyH_take (i := 4) (v := (.int .i64 0)) rfl (by kernel_rfl) (by kernel_rfl) (by kernel_rfl) (fun _ _ _ h => h) (Or.inl ⟨by rfl, ?_⟩) (by assumption) ?_
    · intro w9 hSw
      try dsimp only at hSw
      go_simp
      all_goals try decide
      all_goals try assumption
      all_goals try omega
    try simp only [Act.put, List.getElem_toArray, List.getElem_cons_succ, List.getElem_cons_zero, List.setIfInBounds_toArray, List.set_cons_zero, List.set_cons_succ]
    refine wpAnyH_ready (rs := [5]) (by kernel_rfl) (by simp) ?_
    refine AllReadyH.cons rfl (fun K' hK => ?_) AllReadyH.nil
    rw [if_pos (by rfl)]
    simp only [List.getElem_toArray, List.getElem_cons_succ, List.getElem_cons_zero]
    refine wp_store_by 29 (.tmp 2) (.tmp 7) rfl _ _ rfl rfl (storeCM _ _ _ k i s z n q a len cap t l c b e u m o _ g2.out rfl) ?_
    refine hK.out _ _ (⟨below_setRow B2.out (Nat.le_succ _) _, (setRow_other _ _ _ _ (by omega)).trans g1.out, _, rfl, setRow_heap _ _ _ _ _ _ g2.out⟩) (fun hHeld => ?_)
    clear hK K'
    try simp only [Act.put, List.getElem_toArray, List.getElem_cons_succ, List.getElem_cons_zero, List.setIfInBounds_toArray, List.set_cons_zero, List.set_cons_succ]
    refine wpAnyH_take (i := 6) (v := (.int .i64 0)) rfl (by kernel_rfl) (by kernel_rfl) (by kernel_rfl) (fun _ _ _ h => h) (Or.inl ⟨by rfl, ?_⟩) (by assumption) ?_
    · intro w9 hSw
      try dsimp only at hSw
      go_simp
      all_goals try decide
      all_goals try assumption
      all_goals try omega
    try simp only [Act.put, List.getElem_toArray, List.getElem_cons_succ, List.getElem_cons_zero, List.setIfInBounds_toArray, List.set_cons_zero, List.set_cons_succ]
    refine wpAnyH_done (by kernel_rfl) ?_ _
    go_wp2_with fail
    have hc := fun j => cell_of_row (w2.setRow (w.heap.size + 1) (cmC k i s z n q a len cap t l c b e u m o)) (w.heap.size + 1) j _ _ _ (setRow_heap _ _ _ _ _ _ g2.out)
    refine bodyPost_ret (v := .tuple #[cmV k i s z n q a len cap t l c b e u m o, .int .i64 0]) ?_ rfl ?_
    · simp [results, Try.results15, go_sem, hc]
    · refine ⟨a, cap, ?_, ?_, below_setRow B2.out (Nat.le_succ _) _⟩
      · show _ = Ending.returned (.tuple #[cmV _ _ _ _ _ _ _ _ _ _ _ _ _ _ _ _ _, _])
        dsimp only
        rw [HL.out]
      · show Told _ _ _ _ _ _
        dsimp only
        rw [HL.out]
        exact HT.out
#print axioms asked_any

set_option linter.unusedSimpArgs false in
set_option maxHeartbeats 4000000 in
set_option maxRecDepth 100000 in
theorem answered_any (y : B8) (ok : y.Ok) (w : World) :
    Calls Try.prog 17 #[arr8 y.b0 y.b1 y.b2 y.b3 y.b4 y.b5 y.b6 y.b7] w (CPost w (answeredP y)) := by
  have HB : Hid (∀ (W : World) (g : Nat), g = W.heap.size → Calls Try.prog 27 #[.slice (some ⟨g, 0, none⟩) 10 10, arr8 y.b0 y.b1 y.b2 y.b3 y.b4 y.b5 y.b6 y.b7] (W.alloc (.cells (ansT.flatMap Ln.c).toArray 72)) (CPost (W.alloc (.cells (ansT.flatMap Ln.c).toArray 72)) (answeredP y))) := fun W g hg => by
    subst hg
    exact commandOf_any W.heap.size 10 y (ansR y) (ansP (ansR y)) _ (fun W' hb => ansC_any _ y ok _ ((IsT.new W ansT).next hb)) (fun W' a cap hb hr => ansB_any _ (ansR y) (ansR_ok y ok) a cap W' ((IsT.new W ansT).next hb) hr)
  generalize answeredP y = R at HB ⊢
  generalize hT : (.cells (ansT.flatMap Ln.c).toArray 72 : Obj) = TT at HB
  have HA : Hid (∀ W, Calls Try.prog 26 #[] W fun e w' => e = .returned (.slice (some ⟨W.heap.size, 0, none⟩) 10 10) ∧ w' = W.alloc TT) := fun W => by rw [← hT]; exact answers_any W
  clear hT ok
  obtain ⟨b0, b1, b2, b3, b4, b5, b6, b7⟩ := y
  dsimp only at HB ⊢
  have HS0 : Hid (Below w.heap.size w ((w.alloc (.cells (ar8 b0 b1 b2 b3 b4 b5 b6 b7) 31)).alloc (.cells (cmC 0 0 0 false 0 false none 0 0 false false false 0 0 0 0 0) 29)) ∧ ((w.alloc (.cells (ar8 b0 b1 b2 b3 b4 b5 b6 b7) 31)).alloc (.cells (cmC 0 0 0 false 0 false none 0 0 false false false 0 0 0 0 0) 29)).heap[w.heap.size]? = some (.cells (ar8 b0 b1 b2 b3 b4 b5 b6 b7) 31 (0, 0)) ∧ ((w.alloc (.cells (ar8 b0 b1 b2 b3 b4 b5 b6 b7) 31)).alloc (.cells (cmC 0 0 0 false 0 false none 0 0 false false false 0 0 0 0 0) 29)).heap[w.heap.size + 1]? = some (.cells (cmC 0 0 0 false 0 false none 0 0 false false false 0 0 0 0 0) 29 (0, 0))) := ⟨(by repeat (first | exact Below.refl _ _ | apply Below.drew | apply Below.al)), (by repeat (first | exact heap_at _ _ _ (by simp) | rw [heap_drew] | rw [Below.heap_alloc _ _ _ (by first | (simp; done) | (simp; omega))])), (by repeat (first | exact heap_at _ _ _ (by simp) | rw [heap_drew] | rw [Below.heap_alloc _ _ _ (by first | (simp; done) | (simp; omega))]))⟩
  cases R with
  | none =>
    go_enter Try.func17, Try.ntmps17
    go_wp2_with fail
    refine wp_region_held_drew (S := fun x => Below w.heap.size w x ∧ x.heap[w.heap.size]? = some (.cells (ar8 b0 b1 b2 b3 b4 b5 b6 b7) 31 (0, 0)) ∧ ∃ C : Array Value, C.size = 15 ∧ x.heap[w.heap.size + 1]? = some (.cells C 29 (0, 0))) (by kernel_rfl) (⟨Below.drew HS0.out.1, HS0.out.2.1, _, rfl, HS0.out.2.2⟩) (fun hHeld => ?_)
    refine wpAnyH_take (i := 1) (v := (arr8 b0 b1 b2 b3 b4 b5 b6 b7)) rfl (by kernel_rfl) (by kernel_rfl) (by kernel_rfl) (fun _ _ _ h => h) (Or.inl ⟨by rfl, ?_⟩) (by assumption) ?_
    · intro w9 hSw
      try dsimp only at hSw
      obtain ⟨_, hbx, _⟩ := hSw
      exact ex_load 31 (.tmp 1) rfl _ _ rfl (load8 _ _ _ _ _ _ _ _ _ _ _ hbx)
    try simp only [Act.put, List.getElem_toArray, List.getElem_cons_succ, List.getElem_cons_zero, List.setIfInBounds_toArray, List.set_cons_zero, List.set_cons_succ]
    refine wpAnyH_ready (rs := [0]) (by kernel_rfl) (by simp) ?_
    refine AllReadyH.cons rfl (fun K' hK => ?_) AllReadyH.nil
    rw [if_pos (by rfl)]
    simp only [List.getElem_toArray, List.getElem_cons_succ, List.getElem_cons_zero]
    go_wp2_with fail
    refine (HA.out _).mono ?_
    rintro r w1 ⟨rfl, rfl⟩
    try go_wp2_with fail
    refine hK.out _ _ (⟨Below.al (Below.drew HS0.out.1) _, (Below.heap_alloc _ _ _ (by first | (simp; done) | (simp; omega))).trans HS0.out.2.1, _, rfl, (Below.heap_alloc _ _ _ (by simp)).trans HS0.out.2.2⟩) (fun hHeld => ?_)
    clear hK K'
    try simp only [Act.put, List.getElem_toArray, List.getElem_cons_succ, List.getElem_cons_zero, List.setIfInBounds_toArray, List.set_cons_zero, List.set_cons_succ]
    refine wpAnyH_ready (rs := [2]) (by kernel_rfl) (by simp) ?_
    refine AllReadyH.cons rfl (fun K' hK => ?_) AllReadyH.nil
    rw [if_pos (by rfl)]
    simp only [List.getElem_toArray, List.getElem_cons_succ, List.getElem_cons_zero]
    go_wp2_with fail
    refine (HB.out (((w.alloc (.cells (ar8 b0 b1 b2 b3 b4 b5 b6 b7) 31)).alloc (.cells (cmC 0 0 0 false 0 false none 0 0 false false false 0 0 0 0 0) 29))).drew _ (by simp)).mono ?_
    rintro r w2 ⟨rfl, hb⟩
    have B2 : Hid (Below w.heap.size w w2) := Below.andThen (Below.al (Below.drew HS0.out.1) _) hb
    have g1 : Hid (w2.heap[w.heap.size]? = some (.cells (ar8 b0 b1 b2 b3 b4 b5 b6 b7) 31 (0, 0))) := (hb.block _ (by first | (simp; done) | (simp; omega))).trans ((Below.heap_alloc _ _ _ (by first | (simp; done) | (simp; omega))).trans HS0.out.2.1)
    have g2 : Hid (w2.heap[w.heap.size + 1]? = some (.cells (cmC 0 0 0 false 0 false none 0 0 false false false 0 0 0 0 0) 29 (0, 0))) := (hb.block _ (by first | (simp; done) | (simp; omega))).trans ((Below.heap_alloc _ _ _ (by simp)).trans HS0.out.2.2)
    clear hb
    try go_wp2_with fail
    refine hK.out _ _ (⟨B2.out, g1.out, _, rfl, g2.out⟩) (fun hHeld => ?_)
    clear hK K'
    try simp only [Act.put, List.getElem_toArray, List.getElem_cons_succ, List.getElem_cons_zero, List.setIfInBounds_toArray, List.set_cons_zero, List.set_cons_succ]
    refine wpAnyH_take (i := 3) (v := (cmV 0 0 0 false 0 false none 0 0 false false false 0 0 0 0 0)) rfl (by kernel_rfl) (by kernel_rfl) (by kernel_rfl) (fun _ _ _ h => h) (Or.inl ⟨by rfl, ?_⟩) (by assumption) ?_
    · intro w9 hSw
      try dsimp only at hSw
      go_simp
      all_goals try decide
      all_goals try assumption
      all_goals try omega
    try simp only [Act.put, List.getElem_toArray, List.getElem_cons_succ, List.getElem_cons_zero, List.setIfInBounds_toArray, List.set_cons_zero, List.set_cons_succ]
    refine wpAnyH_take (i := 4) (v := (.int .i64 11)) rfl (by kernel_rfl) (by kernel_rfl) (by kernel_rfl) (fun _ _ _ h => h) (Or.inl ⟨by rfl, ?_⟩) (by assumption) ?_
    · intro w9 hSw
      try dsimp only at hSw
      go_simp
      all_goals try decide
      all_goals try assumption
      all_goals try omega
    try simp only [Act.put, List.getElem_toArray, List.getElem_cons_succ, List.getElem_cons_zero, List.setIfInBounds_toArray, List.set_cons_zero, List.set_cons_succ]
    refine wpAnyH_ready (rs := [5]) (by kernel_rfl) (by simp) ?_
    refine AllReadyH.cons rfl (fun K' hK => ?_) AllReadyH.nil
    rw [if_pos (by rfl)]
    simp only [List.getElem_toArray, List.getElem_cons_succ, List.getElem_cons_zero]
    refine wp_store_by 29 (.tmp 2) (.tmp 7) rfl _ _ rfl rfl (storeCM _ _ _ 0 0 0 false 0 false none 0 0 false false false 0 0 0 0 0 _ g2.out rfl) ?_
    refine hK.out _ _ (⟨below_setRow B2.out (Nat.le_succ _) _, (setRow_other _ _ _ _ (by omega)).trans g1.out, _, rfl, setRow_heap _ _ _ _ _ _ g2.out⟩) (fun hHeld => ?_)
    clear hK K'
    try simp only [Act.put, List.getElem_toArray, List.getElem_cons_succ, List.getElem_cons_zero, List.setIfInBounds_toArray, List.set_cons_zero, List.set_cons_succ]
    refine wpAnyH_take (i := 6) (v := (.int .i64 11)) rfl (by kernel_rfl) (by kernel_rfl) (by kernel_rfl) (fun _ _ _ h => h) (Or.inl ⟨by rfl, ?_⟩) (by assumption) ?_
    · intro w9 hSw
      try dsimp only at hSw
      go_simp
      all_goals try decide
      all_goals try assumption
      all_goals try omega
    try simp only [Act.put, List.getElem_toArray, List.getElem_cons_succ, List.getElem_cons_zero, List.setIfInBounds_toArray, List.set_cons_zero, List.set_cons_succ]
    refine wpAnyH_done (by kernel_rfl) ?_ _
    go_wp2_with fail
    have hc := fun j => cell_of_row (w2.setRow (w.heap.size + 1) (cmC 0 0 0 false 0 false none 0 0 false false false 0 0 0 0 0)) (w.heap.size + 1) j _ _ _ (setRow_heap _ _ _ _ _ _ g2.out)
    refine bodyPost_ret (v := .tuple #[cmV 0 0 0 false 0 false none 0 0 false false false 0 0 0 0 0, .int .i64 11]) ?_ rfl ?_
    · simp [results, Try.results17, go_sem, hc]
    · exact ⟨rfl, below_setRow B2.out (Nat.le_succ _) _⟩
  | some x =>
    obtain ⟨k, i, s, z, n, q, d, t, l, c, b, e, u, m, o⟩ := x
    go_enter Try.func17, Try.ntmps17
    go_wp2_with fail
    refine wp_region_held_drew (S := fun x => Below w.heap.size w x ∧ x.heap[w.heap.size]? = some (.cells (ar8 b0 b1 b2 b3 b4 b5 b6 b7) 31 (0, 0)) ∧ ∃ C : Array Value, C.size = 15 ∧ x.heap[w.heap.size + 1]? = some (.cells C 29 (0, 0))) (by kernel_rfl) (⟨Below.drew HS0.out.1, HS0.out.2.1, _, rfl, HS0.out.2.2⟩) (fun hHeld => ?_)
    refine wpAnyH_take (i := 1) (v := (arr8 b0 b1 b2 b3 b4 b5 b6 b7)) rfl (by kernel_rfl) (by kernel_rfl) (by kernel_rfl) (fun _ _ _ h => h) (Or.inl ⟨by rfl, ?_⟩) (by assumption) ?_
    · intro w9 hSw
      try dsimp only at hSw
      obtain ⟨_, hbx, _⟩ := hSw
      exact ex_load 31 (.tmp 1) rfl _ _ rfl (load8 _ _ _ _ _ _ _ _ _ _ _ hbx)
    try simp only [Act.put, List.getElem_toArray, List.getElem_cons_succ, List.getElem_cons_zero, List.setIfInBounds_toArray, List.set_cons_zero, List.set_cons_succ]
    refine wpAnyH_ready (rs := [0]) (by kernel_rfl) (by simp) ?_
    refine AllReadyH.cons rfl (fun K' hK => ?_) AllReadyH.nil
    rw [if_pos (by rfl)]
    simp only [List.getElem_toArray, List.getElem_cons_succ, List.getElem_cons_zero]
    go_wp2_with fail
    refine (HA.out _).mono ?_
    rintro r w1 ⟨rfl, rfl⟩
    try go_wp2_with fail
    refine hK.out _ _ (⟨Below.al (Below.drew HS0.out.1) _, (Below.heap_alloc _ _ _ (by first | (simp; done) | (simp; omega))).trans HS0.out.2.1, _, rfl, (Below.heap_alloc _ _ _ (by simp)).trans HS0.out.2.2⟩) (fun hHeld => ?_)
    clear hK K'
    try simp only [Act.put, List.getElem_toArray, List.getElem_cons_succ, List.getElem_cons_zero, List.setIfInBounds_toArray, List.set_cons_zero, List.set_cons_succ]
    refine wpAnyH_ready (rs := [2]) (by kernel_rfl) (by simp) ?_
    refine AllReadyH.cons rfl (fun K' hK => ?_) AllReadyH.nil
    rw [if_pos (by rfl)]
    simp only [List.getElem_toArray, List.getElem_cons_succ, List.getElem_cons_zero]
    go_wp2_with fail
    refine (HB.out (((w.alloc (.cells (ar8 b0 b1 b2 b3 b4 b5 b6 b7) 31)).alloc (.cells (cmC 0 0 0 false 0 false none 0 0 false false false 0 0 0 0 0) 29))).drew _ (by simp)).mono ?_
    rintro r w2 ⟨a, cap, rfl, ht, hb⟩
    have B2 : Hid (Below w.heap.size w w2) := Below.andThen (Below.al (Below.drew HS0.out.1) _) hb
    have g1 : Hid (w2.heap[w.heap.size]? = some (.cells (ar8 b0 b1 b2 b3 b4 b5 b6 b7) 31 (0, 0))) := (hb.block _ (by first | (simp; done) | (simp; omega))).trans ((Below.heap_alloc _ _ _ (by first | (simp; done) | (simp; omega))).trans HS0.out.2.1)
    have g2 : Hid (w2.heap[w.heap.size + 1]? = some (.cells (cmC 0 0 0 false 0 false none 0 0 false false false 0 0 0 0 0) 29 (0, 0))) := (hb.block _ (by first | (simp; done) | (simp; omega))).trans ((Below.heap_alloc _ _ _ (by simp)).trans HS0.out.2.2)
    dsimp only at ht ⊢
    obtain ⟨len, HL⟩ : ∃ len, Hid (d.length = len) := ⟨_, rfl⟩
    rw [HL.out] at ht ⊢
    have HT : Hid (Told w (w2.setRow (w.heap.size + 1) (cmC k i s z n q a len cap t l c b e u m o)) a len cap d) := ht.other (by simp; omega) (fun g hg => setRow_other _ _ _ _ (by simp at hg; omega))
    clear ht
    clear hb
    try go_wp2_with fail
    refine hK.out _ _ (⟨B2.out, g1.out, _, rfl, g2.out⟩) (fun hHeld => ?_)
    clear hK K'
    try simp only [Act.put, List.getElem_toArray, List.getElem_cons_succ, List.getElem_cons_zero, List.setIfInBounds_toArray, List.set_cons_zero, List.set_cons_succ]
    refine wpAnyH_take (i := 3) (v := (cmV k i s z n q a len cap t l c b e u m o)) rfl (by kernel_rfl) (by kernel_rfl) (by kernel_rfl) (fun _ _ _ h => h) (Or.inl ⟨by rfl, ?_⟩) (by assumption) ?_
    · intro w9 hSw
      try dsimp only at hSw
      go_simp
      all_goals try decide
      all_goals try assumption
      all_goals try omega
    try simp only [Act.put, List.getElem_toArray, List.getElem_cons_succ, List.getElem_cons_zero, List.setIfInBounds_toArray, List.set_cons_zero, List.set_cons_succ]
    refine wpAnyH_take (i := 4) (v := (.int .i64 0)) rfl (by kernel_rfl) (by kernel_rfl) (by kernel_rfl) (fun _ _ _ h => h) (Or.inl ⟨by rfl, ?_⟩) (by assumption) ?_
    · intro w9 hSw
      try dsimp only at hSw
      go_simp
      all_goals try decide
      all_goals try assumption
      all_goals try omega
    try simp only [Act.put, List.getElem_toArray, List.getElem_cons_succ, List.getElem_cons_zero, List.setIfInBounds_toArray, List.set_cons_zero, List.set_cons_succ]
    refine wpAnyH_ready (rs := [5]) (by kernel_rfl) (by simp) ?_
    refine AllReadyH.cons rfl (fun K' hK => ?_) AllReadyH.nil
    rw [if_pos (by rfl)]
    simp only [List.getElem_toArray, List.getElem_cons_succ, List.getElem_cons_zero]
    refine wp_store_by 29 (.tmp 2) (.tmp 7) rfl _ _ rfl rfl (storeCM _ _ _ k i s z n q a len cap t l c b e u m o _ g2.out rfl) ?_
    refine hK.out _ _ (⟨below_setRow B2.out (Nat.le_succ _) _, (setRow_other _ _ _ _ (by omega)).trans g1.out, _, rfl, setRow_heap _ _ _ _ _ _ g2.out⟩) (fun hHeld => ?_)
    clear hK K'
    try simp only [Act.put, List.getElem_toArray, List.getElem_cons_succ, List.getElem_cons_zero, List.setIfInBounds_toArray, List.set_cons_zero, List.set_cons_succ]
    refine wpAnyH_take (i := 6) (v := (.int .i64 0)) rfl (by kernel_rfl) (by kernel_rfl) (by kernel_rfl) (fun _ _ _ h => h) (Or.inl ⟨by rfl, ?_⟩) (by assumption) ?_
    · intro w9 hSw
      try dsimp only at hSw
      go_simp
      all_goals try decide
      all_goals try assumption
      all_goals try omega
    try simp only [Act.put, List.getElem_toArray, List.getElem_cons_succ, List.getElem_cons_zero, List.setIfInBounds_toArray, List.set_cons_zero, List.set_cons_succ]
    refine wpAnyH_done (by kernel_rfl) ?_ _
    go_wp2_with fail
    have hc := fun j => cell_of_row (w2.setRow (w.heap.size + 1) (cmC k i s z n q a len cap t l c b e u m o)) (w.heap.size + 1) j _ _ _ (setRow_heap _ _ _ _ _ _ g2.out)
    refine bodyPost_ret (v := .tuple #[cmV k i s z n q a len cap t l c b e u m o, .int .i64 0]) ?_ rfl ?_
    · simp [results, Try.results17, go_sem, hc]
    · refine ⟨a, cap, ?_, ?_, below_setRow B2.out (Nat.le_succ _) _⟩
      · show _ = Ending.returned (.tuple #[cmV _ _ _ _ _ _ _ _ _ _ _ _ _ _ _ _ _, _])
        dsimp only
        rw [HL.out]
      · show Told _ _ _ _ _ _
        dsimp only
        rw [HL.out]
        exact HT.out
#print axioms answered_any

end Go.Proofs.Ytchelanikhoogaa
