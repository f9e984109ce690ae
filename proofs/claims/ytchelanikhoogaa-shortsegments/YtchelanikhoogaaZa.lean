/-
  The walks of Segment, Segmented, and the document's Segment.
-/
import Derived.Test.YtchelanikhoogaaSh
import Derived.Test.YtchelanikhoogaaSf4
import Derived.Test.YtchelanikhoogaaSu
import Derived.Test.YtchelanikhoogaaRa1
import Derived.Laws.Bits128
namespace Go.Proofs.Ytchelanikhoogaa
open Go.RowKit

/-- May a segment be? -/
def segOk (seq : Int) (last : Bool) (len : Nat) : Bool := decide (1 ≤ seq) && (decide (seq ≤ 127) && (decide (1 ≤ len) && fits (len : Int) last))
/-- A segment's bytes. -/
def segP (seq : Int) (last : Bool) (zs : List Int) : Option B8 := if segOk seq last zs.length then some ⟨seq + bitn last 128, zb zs 0, zb zs 1, zb zs 2, zb zs 3, zb zs 4, zb zs 5, zb zs 6⟩ else none
theorem or128 (y : Int) (last : Bool) (h : 0 ≤ y ∧ y < 128) : bits .or .u8 y (bitv last 128) = y + bitn last 128 := by
  cases last
  · show bits .or .u8 y 0 = y + 0
    rw [u8_or y 0 h.1 (by omega) (by decide) (by decide)]
    simp; omega
  · exact u8_or128_right y h.1 h.2
theorem sl_7 (B : Nat) (w : World) : (Instr.sliceAt 31 (.pointer (some ⟨B, 0, none⟩)) (some (.int .i64 1)) none none).run Try.prog w = .ok (.slice (some ⟨B, 1, none⟩) 7 7) w := by kernel_rfl

theorem copy_one (ty : TypeId) (w : World) (C C' : Array Value) (x : Obj) (off n m : Nat) (a : Option Addr) (len cap : Nat) (zs : List Int) (hr : Row w a len zs) (hl : len ≤ n) (hC : off + n ≤ C.size) (hC' : over8 C off zs = C') :
    (Builtin.copy_ #[26, 26] ty #[.slice (some ⟨w.heap.size + 1, off, none⟩) n m, .slice a len cap]).run Try.prog ((w.alloc x).alloc (.cells C 31)) = .ok (.int .i64 len) ((w.alloc x).alloc (.cells C' 31)) := by
  have hB : ((w.alloc x).alloc (.cells C 31)).heap[w.heap.size + 1]? = some (.cells C 31 (0, 0)) := heap_at _ _ _ (by simp)
  rw [copy_any ty _ (w.heap.size + 1) off n m C 31 hB a len cap zs (hr.next (by repeat (first | exact Below.refl _ _ | apply Below.drew | apply Below.al))) hl hC, hC']
  have := World.setRow_alloc_new (w.alloc x) C C' 31
  rw [show (w.alloc x).heap.size = w.heap.size + 1 from by simp] at this
  rw [this]

set_option linter.unusedSimpArgs false in
set_option maxHeartbeats 4000000 in
set_option maxRecDepth 100000 in
theorem segment_any (seq : Int) (last : Bool) (a : Option Addr) (len cap : Nat) (zs : List Int) (w : World) (hr : Row w a len zs) :
    Calls Try.prog 19 #[.int .i64 seq, .bool last, .slice a len cap] w (BPost w (segP seq last zs)) := by
  have hs := hr.size
  unfold segP
  rw [hs]
  by_cases h1 : seq < 1
  · have e : segOk seq last len = false := by simp [segOk]; omega
    rw [e]
    clear hr hs
    go_enter Try.func19, Try.ntmps19
    go_wp2_with fail
    exact bodyPost_ret (v := .tuple #[arr8 0 0 0 0 0 0 0 0, .int .i64 2]) (by simp [results, Try.results19, go_sem]) rfl ⟨rfl, (by repeat (first | exact Below.refl _ _ | apply Below.drew | apply Below.al))⟩
  by_cases h2 : 127 < seq
  · have e : segOk seq last len = false := by simp [segOk]; omega
    rw [e]
    clear hr hs
    go_enter Try.func19, Try.ntmps19
    go_wp2_with fail
    exact bodyPost_ret (v := .tuple #[arr8 0 0 0 0 0 0 0 0, .int .i64 2]) (by simp [results, Try.results19, go_sem]) rfl ⟨rfl, (by repeat (first | exact Below.refl _ _ | apply Below.drew | apply Below.al))⟩
  by_cases h3 : len = 0
  · have e : segOk seq last len = false := by simp [segOk]; omega
    rw [e]
    subst h3
    clear hr hs
    go_enter Try.func19, Try.ntmps19
    go_wp2_with fail
    exact bodyPost_ret (v := .tuple #[arr8 0 0 0 0 0 0 0 0, .int .i64 2]) (by simp [results, Try.results19, go_sem]) rfl ⟨rfl, (by repeat (first | exact Below.refl _ _ | apply Below.drew | apply Below.al))⟩
  have l0 : ((len : Int) == 0) = false := by simp; omega
  cases hF : fits (len : Int) last
  · have e : segOk seq last len = false := by simp [segOk, hF]
    rw [e]
    clear hr hs
    go_enter Try.func19, Try.ntmps19
    go_wp2_with fail
    with_reducible refine (fitsPart_any _ _ _).mono ?_
    rintro r w1 ⟨rfl, rfl⟩
    go_wp2_with fail
    exact bodyPost_ret (v := .tuple #[arr8 0 0 0 0 0 0 0 0, .int .i64 2]) (by simp [results, Try.results19, go_sem]) rfl ⟨rfl, (by repeat (first | exact Below.refl _ _ | apply Below.drew | apply Below.al))⟩
  · have e : segOk seq last len = true := by simp [segOk, hF]; omega
    rw [e]
    have h7 : len ≤ 7 := by
      simp only [fits, Bool.or_eq_true, beq_iff_eq, Bool.and_eq_true, decide_eq_true_eq] at hF
      omega
    have hcp := fun ty x B => copy_one ty w (ar8 B 0 0 0 0 0 0 0) (ar8 B (zb zs 0) (zb zs 1) (zb zs 2) (zb zs 3) (zb zs 4) (zb zs 5) (zb zs 6)) x 1 7 7 a len cap zs hr (by omega) (by simp) (over8_1 _ zs (by omega))
    have e1 : IntKind.u8.wrap seq = seq := by rw [wrap8]; omega
    have e2 := or128 seq last (by omega)
    clear hr hs
    generalize zb zs 0 = z0 at *
    generalize zb zs 1 = z1 at *
    generalize zb zs 2 = z2 at *
    generalize zb zs 3 = z3 at *
    generalize zb zs 4 = z4 at *
    generalize zb zs 5 = z5 at *
    generalize zb zs 6 = z6 at *
    generalize seq + bitn last 128 = sq at *
    go_enter Try.func19, Try.ntmps19
    go_wp2_with fail
    with_reducible refine (fitsPart_any _ _ _).mono ?_
    rintro r w1 ⟨rfl, rfl⟩
    go_wp2_with fail
    with_reducible refine (bit_any _ _ _).mono ?_
    rintro r w1 ⟨rfl, rfl⟩
    go_wp2_with fail
    exact bodyPost_ret (v := .tuple #[arr8 sq z0 z1 z2 z3 z4 z5 z6, .int .i64 0]) (by simp [results, Try.results19, go_sem]) rfl ⟨rfl, (by repeat (first | exact Below.refl _ _ | apply Below.drew | apply Below.al))⟩
#print axioms segment_any

set_option linter.unusedSimpArgs false in
set_option maxHeartbeats 4000000 in
set_option maxRecDepth 100000 in
theorem refSegment_any (seq : Int) (last : Bool) (a : Option Addr) (len cap : Nat) (zs : List Int) (hl : len ≤ 100) (w : World) (hr : Row w a len zs) :
    Calls Try.prog 20 #[.int .i64 seq, .bool last, .slice a len cap] w (BPost w (segP seq last zs)) := by
  have hs := hr.size
  unfold segP
  rw [hs]
  have hl' : (len : Int) ≤ 100 := by omega
  by_cases h1 : seq < 1
  · have e : segOk seq last len = false := by simp [segOk]; omega
    rw [e]
    clear hr hs
    go_enter Try.func20, Try.ntmps20
    go_wp2_with fail
    exact bodyPost_ret (v := .tuple #[arr8 0 0 0 0 0 0 0 0, .int .i64 2]) (by simp [results, Try.results20, go_sem]) rfl ⟨rfl, (by repeat (first | exact Below.refl _ _ | apply Below.drew | apply Below.al))⟩
  by_cases h2 : 127 < seq
  · have e : segOk seq last len = false := by simp [segOk]; omega
    rw [e]
    clear hr hs
    go_enter Try.func20, Try.ntmps20
    go_wp2_with fail
    exact bodyPost_ret (v := .tuple #[arr8 0 0 0 0 0 0 0 0, .int .i64 2]) (by simp [results, Try.results20, go_sem]) rfl ⟨rfl, (by repeat (first | exact Below.refl _ _ | apply Below.drew | apply Below.al))⟩
  by_cases h3 : (len : Int) < 1
  · have e : segOk seq last len = false := by simp [segOk]; omega
    rw [e]
    clear hr hs
    go_enter Try.func20, Try.ntmps20
    go_wp2_with fail
    exact bodyPost_ret (v := .tuple #[arr8 0 0 0 0 0 0 0 0, .int .i64 2]) (by simp [results, Try.results20, go_sem]) rfl ⟨rfl, (by repeat (first | exact Below.refl _ _ | apply Below.drew | apply Below.al))⟩
  by_cases h4 : 7 < (len : Int)
  · have e : segOk seq last len = false := by simp [segOk, fits]; omega
    rw [e]
    clear hr hs
    go_enter Try.func20, Try.ntmps20
    go_wp2_with fail
    exact bodyPost_ret (v := .tuple #[arr8 0 0 0 0 0 0 0 0, .int .i64 2]) (by simp [results, Try.results20, go_sem]) rfl ⟨rfl, (by repeat (first | exact Below.refl _ _ | apply Below.drew | apply Below.al))⟩
  have hfin : (last = false ∧ (len : Int) < 7) ∨ (last = false ∧ ¬ (len : Int) < 7) ∨ last = true := by cases last <;> simp <;> omega
  rcases hfin with ⟨rfl, h5⟩ | hfin
  · have e : segOk seq false len = false := by simp [segOk, fits]; omega
    rw [e]
    clear hr hs
    go_enter Try.func20, Try.ntmps20
    go_wp2_with fail
    exact bodyPost_ret (v := .tuple #[arr8 0 0 0 0 0 0 0 0, .int .i64 2]) (by simp [results, Try.results20, go_sem]) rfl ⟨rfl, (by repeat (first | exact Below.refl _ _ | apply Below.drew | apply Below.al))⟩
  · have e : segOk seq last len = true := by rcases hfin with ⟨rfl, _⟩ | rfl <;> simp [segOk, fits] <;> omega
    rw [e]
    have HFL : Hid (∀ W, Below w.heap.size w W → ∀ x, Calls Try.prog 32 #[arr8 x 0 0 0 0 0 0 0, .int .i64 1, .slice a len cap] W fun e w' => e = .returned (arr8 x (zb zs 0) (zb zs 1) (zb zs 2) (zb zs 3) (zb zs 4) (zb zs 5) (zb zs 6)) ∧ ∃ o1 o2, w' = (W.alloc o1).alloc o2) := fun W hb x => filled1 x a len cap zs (by omega) W (hr.next hb)
    have hm : (seq + bitn last 128) % 256 = seq + bitn last 128 := by cases last <;> simp [bitn] <;> omega
    have hw : IntKind.i64.wrap (seq + bitn last 128) = seq + bitn last 128 := by cases last <;> simp [bitn, IntKind.wrap, IntKind.bits, IntKind.signed] <;> omega
    have hbd : 0 ≤ seq + bitn last 128 ∧ seq + bitn last 128 < 256 := by cases last <;> simp [bitn] <;> omega
    obtain ⟨bd0, bd1⟩ := hbd
    clear hr hs
    generalize zb zs 0 = z0 at *
    generalize zb zs 1 = z1 at *
    generalize zb zs 2 = z2 at *
    generalize zb zs 3 = z3 at *
    generalize zb zs 4 = z4 at *
    generalize zb zs 5 = z5 at *
    generalize zb zs 6 = z6 at *
    rcases hfin with ⟨rfl, h5⟩ | rfl
    all_goals
      go_enter Try.func20, Try.ntmps20
      go_wp2_with fail
      with_reducible refine (rbit_any _ _ _).mono ?_
      rintro r w1 ⟨rfl, rfl⟩
      go_wp2_with fail
      with_reducible refine (plain_any _ _).mono ?_
      rintro r w1 ⟨rfl, q1, q2, rfl⟩
      rw [hm]
      go_wp2_with fail
      with_reducible refine (HFL.out _ (by repeat (first | exact Below.refl _ _ | apply Below.drew | apply Below.al)) _).mono ?_
      rintro r w1 ⟨rfl, q3, q4, rfl⟩
      go_wp2_with fail
      exact bodyPost_ret (v := .tuple #[arr8 (seq + bitn _ 128) z0 z1 z2 z3 z4 z5 z6, .int .i64 0]) (by simp [results, Try.results20, go_sem]) rfl ⟨rfl, (by repeat (first | exact Below.refl _ _ | apply Below.drew | apply Below.al))⟩
#print axioms refSegment_any

/-- What Segmented tells. -/
def SPost (w : World) (b : B8) (r : Ending) (w' : World) : Prop := ∃ a cap, (if bits .andNot .u8 b.b0 128 = 0 then r = .returned (.tuple #[.int .i64 0, .bool false, .slice none 0 0, .int .i64 11]) else r = .returned (.tuple #[.int .i64 (bits .andNot .u8 b.b0 128), .bool (bt b.b0 128), .slice a 7 cap, .int .i64 0]) ∧ Told w w' a 7 cap [b.b1, b.b2, b.b3, b.b4, b.b5, b.b6, b.b7]) ∧ Below w.heap.size w w'
set_option linter.unusedSimpArgs false in
set_option maxHeartbeats 4000000 in
set_option maxRecDepth 100000 in
theorem segmented_any (b0 b1 b2 b3 b4 b5 b6 b7 : Int) (h1 : 0 ≤ b1 ∧ b1 < 256) (h2 : 0 ≤ b2 ∧ b2 < 256) (h3 : 0 ≤ b3 ∧ b3 < 256) (h4 : 0 ≤ b4 ∧ b4 < 256) (h5 : 0 ≤ b5 ∧ b5 < 256) (h6 : 0 ≤ b6 ∧ b6 < 256) (h7 : 0 ≤ b7 ∧ b7 < 256) (w : World) :
    Calls Try.prog 21 #[arr8 b0 b1 b2 b3 b4 b5 b6 b7] w (SPost w ⟨b0, b1, b2, b3, b4, b5, b6, b7⟩) := by
  have hb := bits_lo_u8 .andNot b0 128
  have hb' := bits_hi_u8 .andNot b0 128
  unfold SPost
  dsimp only
  obtain ⟨E, hE⟩ : ∃ E, bits .andNot .u8 b0 128 = E := ⟨_, rfl⟩
  rw [hE] at hb hb' ⊢
  have hw : IntKind.i64.wrap E = E := by simp [IntKind.wrap, IntKind.bits, IntKind.signed]; omega
  by_cases hz : E = 0
  · subst hz
    simp only [if_true]
    clear hb hb'
    go_enter Try.func21, Try.ntmps21
    go_wp2_with fail
    exact bodyPost_ret (v := .tuple #[.int .i64 0, .bool false, .slice none 0 0, .int .i64 11]) (by simp [results, Try.results21, go_sem]) rfl ⟨none, 0, rfl, (by repeat (first | exact Below.refl _ _ | apply Below.drew | apply Below.al))⟩
  · simp only [hz, if_false]
    have hz' : (E == 0) = false := by simpa using hz
    obtain ⟨T, hT⟩ : ∃ T, (bits .and .u8 b0 128 != 0) = T := ⟨_, rfl⟩
    rw [show bt b0 128 = T from hT]
    have hrow := row_1 (w.alloc (.cells (ar8 b0 b1 b2 b3 b4 b5 b6 b7) 31)).drew w.heap.size 0 b0 b1 b2 b3 b4 b5 b6 b7 _ h1 h2 h3 h4 h5 h6 h7 (heap_new _ _)
    have HCl : Hid (Calls Try.prog 35 #[.slice (some ⟨w.heap.size, 1, none⟩) 7 7] (w.alloc (.cells (ar8 b0 b1 b2 b3 b4 b5 b6 b7) 31)).drew fun e w' => (∃ a' cap', e = .returned (.slice a' 7 cap') ∧ Told (w.alloc (.cells (ar8 b0 b1 b2 b3 b4 b5 b6 b7) 31)).drew w' a' 7 cap' [b1, b2, b3, b4, b5, b6, b7]) ∧ Below (w.alloc (.cells (ar8 b0 b1 b2 b3 b4 b5 b6 b7) 31)).drew.heap.size (w.alloc (.cells (ar8 b0 b1 b2 b3 b4 b5 b6 b7) 31)).drew w') := clone8_any _ _ _ _ _ hrow (by omega)
    clear hrow
    go_enter Try.func21, Try.ntmps21
    go_wp2_with fail
    go_region_held3 (fun x => x.cell? ⟨w.heap.size, 0, none⟩ = some (.int .u8 b0)) (first | ((simp [go_sem]; done)) | exact hx1) (first | ((go_at_call 35; with_reducible refine HCl.out.mono ?_; rintro r w1 ⟨⟨a', cap', rfl, ht⟩, hb1⟩; have hx1 : w1.cell? ⟨w.heap.size, 0, none⟩ = some (.int .u8 b0) := (hb1.cell (by simp)).trans (by simp [go_sem]))))
    all_goals
      go_wp2_with fail
      exact bodyPost_ret (v := .tuple #[.int .i64 E, .bool T, .slice a' 7 cap', .int .i64 0]) (by simp [results, Try.results21, go_sem]) rfl ⟨a', cap', ⟨rfl, ht.mono (by simp)⟩, Below.andThen (by repeat (first | exact Below.refl _ _ | apply Below.drew | apply Below.al)) hb1⟩
#print axioms segmented_any
end Go.Proofs.Ytchelanikhoogaa
