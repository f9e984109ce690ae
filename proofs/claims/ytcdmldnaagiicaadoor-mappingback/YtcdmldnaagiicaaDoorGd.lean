/-
  lay.
-/
import Derived.Test.YtcdmldnaagiicaaDoorGc
namespace Go.Proofs.YtcdmldnaagiicaaDoor
open Go.RowKit Go.Shelf
attribute [local go_sem] Oper.semAt_some

/-- Bits of a row laid into another one. -/
def layB (zs : List Int) (off cnt fr : Nat) (ys : List Int) : List Int := layL zs off fr ys (bq cnt)

set_option linter.unusedSimpArgs false in
set_option maxHeartbeats 4000000 in
set_option maxRecDepth 100000 in
theorem lay_any (w : World) (Bn Bf Br g R off fr cnt : Nat) (a : Option Addr) (len cap : Nat) (zs ys0 : List Int)
    (hcnt : off + cnt ≤ 8 * len) (hlen : len ≤ 1000000) (hfr : fr + cnt ≤ 8 * R) (hR : R ≤ 1000000) (hys : ys0.length = R) (ne2 : Bn ≠ g) (ne3 : Bf ≠ g) (ne4 : Br ≠ g) (ne5 : 0 < len → ∀ b o, a = some ⟨b, o, none⟩ → b ≠ g)
    (hI : BM Bn Bf Br off cnt a len cap zs w) (h0 : w.heap[g]? = some (.cells (ys0.map (Value.int .u8)).toArray 5 (0, 0))) :
    Calls Tryd.prog 23 #[.slice (some ⟨g, 0, none⟩) R R, .int .i64 (fr : Int), .func (.func 38) #[] #[.pointer (some ⟨Bn, 0, none⟩), .pointer (some ⟨Bf, 0, none⟩), .pointer (some ⟨Br, 0, none⟩)]] w fun e w' => e = .returned (.tuple #[]) ∧ w'.heap[g]? = some (.cells ((layB zs off cnt fr ys0).map (Value.int .u8)).toArray 5 (0, 0)) ∧ Kp [g] w w' := by
  have lg := lt_of_heap h0
  have HG0 : Hid (w.heap[g]? = some (.cells (ys0.map (Value.int .u8)).toArray 5 (0, 0))) := h0
  have HI : Hid (BM Bn Bf Br off cnt a len cap zs w) := hI
  clear h0 hI
  refine (callsIn_wide (n := 10)).1 (callsIn_of_wp_marks Tryd.func23 rfl trivial ?_ rfl)
  simp only [Tryd.ntmps23, List.size_toArray, List.length_cons, List.length_nil, Nat.reduceAdd, Nat.reduceSub, Array.replicate_succ, Array.replicate_zero, List.push_toArray, List.append_toArray, List.nil_append, List.cons_append]
  refine wpIn_wide.2 ?_
  go_wp2_with fail
  obtain ⟨W0, HW0⟩ : ∃ W0, Hid ((w.alloc (.cells #[.slice (some ⟨g, 0, none⟩) R R] 34)).alloc (.cells #[.int .i64 (fr : Int)] 3) = W0) := ⟨_, rfl⟩
  have BW : Hid (Below w.heap.size w W0) := by show Below _ _ _; rw [← HW0.out]; exact (by repeat (first | exact Below.refl _ _ | apply Below.drew | apply Below.al))
  have SW : Hid (W0.heap.size = w.heap.size + 2) := by show _ = _; rw [← HW0.out]; simp
  refine lay_loop _ _ _ _ _ _ _ _ _ _ _ _ _ _ _ _ _ _ _ _ _ _ _ _ w.heap.size (w.heap.size + 1) Bn Bf Br g R off fr cnt a len cap zs ys0 (ext11 (at11 _ _ _ rfl)) (at11 _ _ _ (by simp)) hcnt hlen hfr hR hys (by omega) (by omega) ne2 ne3 ne4 ne5 (HI.out.next (by repeat (first | exact Below.refl _ _ | apply Below.drew | apply Below.al))) (ext11 (ext11 HG0.out)) ?_
  rintro D W hD hP hDf
  have hD2 : w.heap.size + 2 ≤ D := by simpa using hD
  have k1 : Kq [g] W0.heap.size W0 W := by rw [← HW0.out]; exact hP.keep
  have FINB : Hid (∀ o', Kp [g] w (W.putObj D o')) := fun o' => by
    have b0 := BW.out
    have s0 := SW.out
    refine ⟨k1.os.trans b0.os, k1.tape.trans b0.tape, k1.output.trans b0.output, by have := k1.size; have := b0.size; simp [World.putObj]; omega, fun x hx hn => ?_⟩
    have hxW : x < W0.heap.size := by omega
    have hxD : x ≠ D := by omega
    obtain ⟨o, ho⟩ : ∃ o, W0.heap[x]? = some o := ⟨_, Array.getElem?_eq_getElem hxW⟩
    have e1 : (W.putObj D o').heap[x]? = W.heap[x]? := by simp [World.putObj, Ne.symm hxD]
    rw [e1, k1.block x o ho hn (.inl hxW), ← ho]
    exact b0.block x hx
  have FINR : Hid (∀ o', (W.putObj D o').heap[g]? = some (.cells ((layB zs off cnt fr ys0).map (Value.int .u8)).toArray 5 (0, 0))) := fun o' => by
    have hxD : g ≠ D := by omega
    have e1 : (W.putObj D o').heap[g]? = W.heap[g]? := by simp [World.putObj, Ne.symm hxD]
    rw [e1]
    exact hP.row
  clear hP k1
  refine ⟨by simp, .inl ⟨_, _, rfl, run_takeDeferred hDf, ?_⟩⟩
  refine ⟨_, results_none rfl _ _ _, ?_⟩
  exact ⟨rfl, FINR.out _, FINB.out _⟩
#print axioms lay_any
end Go.Proofs.YtcdmldnaagiicaaDoor
