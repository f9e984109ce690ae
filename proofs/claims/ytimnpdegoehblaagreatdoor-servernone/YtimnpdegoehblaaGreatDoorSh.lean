/-
  Bytes copied into eight of one's own.
-/
import Derived.Test.YtimnpdegoehblaaGreatDoorSe
namespace Go.Proofs.YtimnpdegoehblaaGreatDoor
open Go.RowKit

theorem modify_push {α : Type} (A : Array α) (x : α) (g : Nat) (f : α → α) (h : g < A.size) : (A.push x).modify g f = (A.modify g f).push x := by
  apply Array.ext_getElem?
  intro i
  rw [Array.getElem?_modify]
  by_cases e : g = i
  · subst e
    rw [if_pos rfl, Array.getElem?_push_lt h, Array.getElem?_push_lt (by simpa using h)]
    simp [Array.getElem_modify]
  · rw [if_neg e]
    by_cases hi : i < A.size
    · rw [Array.getElem?_push_lt hi, Array.getElem?_push_lt (by simpa using hi)]
      simp [Array.getElem_modify, e]
    · by_cases h2 : i = A.size
      · subst h2
        have e1 : (A.push x)[A.size]? = some x := by simp
        have e2 : ((A.modify g f).push x)[(A.modify g f).size]? = some x := by rw [Array.getElem?_push_size]
        rw [Array.size_modify] at e2
        rw [e1, e2]
      · rw [Array.getElem?_eq_none (by simp; omega), Array.getElem?_eq_none (by simp; omega)]
theorem setRow_al (X : World) (o : Obj) (g : Nat) (C : Array Value) (h : g < X.heap.size) : (X.alloc o).setRow g C = (X.setRow g C).alloc o := by
  simp only [World.setRow, World.alloc]
  congr 1
  exact modify_push _ _ _ _ h
theorem setRow_drew (X : World) (g : Nat) (C : Array Value) : X.drew.setRow g C = (X.setRow g C).drew := rfl

/-- Eight cells, written over from a place on. -/
def over8 (C : Array Value) (off : Nat) (zs : List Int) : Array Value := (C.toList.take off ++ zs.map (Value.int .u8) ++ C.toList.drop (off + zs.length)).toArray
theorem over8_nil (C : Array Value) (off : Nat) : over8 C off [] = C := by simp [over8]

theorem copy_any (ty : TypeId) (W : World) (B off n m : Nat) (C : Array Value) (T : TypeId) (hB : W.heap[B]? = some (.cells C T (0, 0))) (a : Option Addr) (len cap : Nat) (zs : List Int) (hr : Row W a len zs) (hl : len ≤ n) (hC : off + n ≤ C.size) :
    (Builtin.copy_ #[42, 42] ty #[.slice (some ⟨B, off, none⟩) n m, .slice a len cap]).run Tryz.prog W = .ok (.int .i64 len) (W.setRow B (over8 C off zs)) := by
  have hs := hr.size
  rcases Nat.eq_zero_or_pos len with h0 | hp
  · subst h0
    rw [Row.nil hr, over8_nil]
    have e : W.setRow B C = W := by
      have : (W.setRow B C).heap = W.heap := by
        apply Array.ext_getElem?
        intro i
        by_cases h : i = B
        · subst h; rw [setRow_heap W i C C T (0, 0) hB, hB]
        · exact setRow_other _ _ _ _ h
      cases W
      simp only [World.setRow] at this ⊢
      congr 1
    rw [e]
    exact run_copy_none (P := Tryz.prog) _ 42 42 ty 5 (some ⟨B, off, none⟩) a n m 0 cap Tryz.underlying42 info8s (by simp)
  · obtain ⟨b, o, rfl, hc⟩ := hr.at_ hp
    have := run_copy_row (P := Tryz.prog) W 42 42 ty 5 B off n m ⟨b, o, none⟩ len cap _ _ (zs.map (Value.int .u8)) Tryz.underlying42 info8s hB (by rw [List.length_map, hs]; exact (Nat.min_eq_left hl).symm) hr.cells (by simp [hs]; omega) (fun v hv => by obtain ⟨_, _, rfl⟩ := List.mem_map.1 hv; rfl)
    rw [this]
    have e : (zs.map (Value.int .u8)).length = len := by simp [hs]
    rw [e]
    simp only [over8, hs]
    rfl

theorem over8_4 (x0 x1 x2 x3 : Int) (zs : List Int) (h : zs.length ≤ 4) : over8 (ar8 x0 x1 x2 x3 0 0 0 0) 4 zs = ar8 x0 x1 x2 x3 (zb zs 0) (zb zs 1) (zb zs 2) (zb zs 3) := by
  match zs, h with
  | [], _ => rfl
  | [a], _ => rfl
  | [a, b], _ => rfl
  | [a, b, c], _ => rfl
  | [a, b, c, d], _ => rfl
theorem over8_1 (x0 : Int) (zs : List Int) (h : zs.length ≤ 7) : over8 (ar8 x0 0 0 0 0 0 0 0) 1 zs = ar8 x0 (zb zs 0) (zb zs 1) (zb zs 2) (zb zs 3) (zb zs 4) (zb zs 5) (zb zs 6) := by
  match zs, h with
  | [], _ => rfl
  | [a], _ => rfl
  | [a, b], _ => rfl
  | [a, b, c], _ => rfl
  | [a, b, c, d], _ => rfl
  | [a, b, c, d, e], _ => rfl
  | [a, b, c, d, e, f], _ => rfl
  | [a, b, c, d, e, f, g], _ => rfl

/-- The copy, where five or more blocks lie behind. -/
theorem copy_chain (ty : TypeId) (w : World) (C C' : Array Value) (x y o1 o2 o3 : Obj) (off n m : Nat) (a : Option Addr) (len cap : Nat) (zs : List Int) (hr : Row w a len zs) (hl : len ≤ n) (hC : off + n ≤ C.size) (hC' : over8 C off zs = C') :
    (Builtin.copy_ #[42, 42] ty #[.slice (some ⟨w.heap.size, off, none⟩) n m, .slice a len cap]).run Tryz.prog ((((((w.alloc (.cells C 23)).alloc x).alloc y).alloc o1).alloc o2).alloc o3).drew.drew = .ok (.int .i64 len) ((((((w.alloc (.cells C' 23)).alloc x).alloc y).alloc o1).alloc o2).alloc o3).drew.drew := by
  have hb : Below w.heap.size w ((((((w.alloc (.cells C 23)).alloc x).alloc y).alloc o1).alloc o2).alloc o3).drew.drew := (by repeat (first | exact Below.refl _ _ | apply Below.drew | apply Below.al))
  have hB : ((((((w.alloc (.cells C 23)).alloc x).alloc y).alloc o1).alloc o2).alloc o3).drew.drew.heap[w.heap.size]? = some (.cells C 23 (0, 0)) := by
    have e := heap_new w (.cells C 23)
    show ((((((w.alloc (.cells C 23)).alloc x).alloc y).alloc o1).alloc o2).alloc o3).heap[w.heap.size]? = _
    rw [Below.heap_alloc _ _ _ (by simp; omega), Below.heap_alloc _ _ _ (by simp; omega), Below.heap_alloc _ _ _ (by simp; omega), Below.heap_alloc _ _ _ (by simp; omega), Below.heap_alloc _ _ _ (by simp)]
    exact e
  rw [copy_any ty _ w.heap.size off n m C 23 hB a len cap zs (hr.next hb) hl hC, hC']
  rw [setRow_drew, setRow_drew, setRow_al _ _ _ _ (by simp; omega), setRow_al _ _ _ _ (by simp; omega), setRow_al _ _ _ _ (by simp; omega), setRow_al _ _ _ _ (by simp; omega), setRow_al _ _ _ _ (by simp), World.setRow_alloc_new]
#print axioms copy_chain
end Go.Proofs.YtimnpdegoehblaaGreatDoor
