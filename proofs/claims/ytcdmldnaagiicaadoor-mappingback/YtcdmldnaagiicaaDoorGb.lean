/-
  The bits of a row: a function to range over.
-/
import Derived.Test.YtcdmldnaagiicaaDoorGa
namespace Go.Proofs.YtcdmldnaagiicaaDoor
open Go.RowKit Go.Shelf
attribute [local go_sem] Oper.semAt_some

set_option linter.unusedSimpArgs false in
set_option maxHeartbeats 4000000 in
set_option maxRecDepth 100000 in
theorem bits_any (a : Option Addr) (len cap off cnt : Nat) (w : World) :
    Calls Tryd.prog 24 #[.slice a len cap, .int .i64 (off : Int), .int .i64 (cnt : Int)] w fun e w' => e = .returned (.func (.func 38) #[] #[.pointer (some ⟨w.heap.size + 1 + 1, 0, none⟩), .pointer (some ⟨w.heap.size + 1, 0, none⟩), .pointer (some ⟨w.heap.size, 0, none⟩)]) ∧ w' = ((w.alloc (.cells #[.slice a len cap] 34)).alloc (.cells #[.int .i64 (off : Int)] 3)).alloc (.cells #[.int .i64 (cnt : Int)] 3) := by
  go_enter Tryd.func24, Tryd.ntmps24
  go_wp2_with fail
  go_ret
  exact ⟨rfl, rfl⟩

/-- What the iteration reads. -/
structure BM (Bn Bf Br off cnt : Nat) (a : Option Addr) (len cap : Nat) (zs : List Int) (W : World) : Prop where
  n : W.heap[Bn]? = some (.cells #[.int .i64 (cnt : Int)] 3 (0, 0))
  f : W.heap[Bf]? = some (.cells #[.int .i64 (off : Int)] 3 (0, 0))
  r : W.heap[Br]? = some (.cells #[.slice a len cap] 34 (0, 0))
  row : Row W a len zs
theorem BM.next {Bn Bf Br off cnt : Nat} {a : Option Addr} {len cap : Nat} {zs : List Int} {W W' : World} (h : BM Bn Bf Br off cnt a len cap zs W) (hb : Below W.heap.size W W') : BM Bn Bf Br off cnt a len cap zs W' :=
  ⟨blk11 hb h.n, blk11 hb h.f, blk11 hb h.r, h.row.next hb⟩
theorem BM.kq {Bn Bf Br off cnt N : Nat} {a : Option Addr} {len cap : Nat} {zs : List Int} {S : List Nat} {W W' : World} (h : BM Bn Bf Br off cnt a len cap zs W) (k : Kq S N W W') (n1 : Bn ∉ S) (n2 : Bf ∉ S) (n3 : Br ∉ S) (n4 : 0 < len → ∀ b o, a = some ⟨b, o, none⟩ → b ∉ S) : BM Bn Bf Br off cnt a len cap zs W' :=
  ⟨k.cells h.n n1, k.cells h.f n2, k.cells h.r n3, h.row.kq k n4⟩
/-- A bit. -/
def bitA (zs : List Int) (k : Nat) : Int := bits .and .u8 (zs.getD (k / 8) 0 / 2 ^ (k % 8)) 1
/-- One that is told: its number. -/
structure BX (cnt : Nat) where
  i : Nat
  h : i < cnt
/-- The bits that are told. -/
def bq (cnt : Nat) : List (BX cnt) := List.ofFn fun i : Fin cnt => ⟨i.1, i.2⟩
theorem bq_len (cnt : Nat) : (bq cnt).length = cnt := by simp [bq]
theorem bq_at (cnt i : Nat) (hi : i < cnt) : (bq cnt).take i ++ [⟨i, hi⟩] = (bq cnt).take (i + 1) := by
  rw [List.take_add_one, List.getElem?_eq_getElem (by rw [bq_len]; exact hi)]
  simp [bq]

set_option linter.unusedSimpArgs false in
set_option maxRecDepth 100000 in
set_option maxHeartbeats 4000000 in
theorem iter_m (n l Bn Bf Br N off cnt : Nat) (S : List Nat) (a : Option Addr) (len cap : Nat) (zs : List Int) (hcnt : off + cnt ≤ 8 * len) (hlen : len ≤ 1000000) (n1 : Bn ∉ S) (n2 : Bf ∉ S) (n3 : Br ∉ S) (n4 : 0 < len → ∀ b o, a = some ⟨b, o, none⟩ → b ∉ S)
    (J Jx : List (BX cnt) → World → Prop) (W : World)
    (hY : ∀ pre (x : BX cnt) W, J pre W → pre.length < cnt → YieldAt Fence.wide (n - 1) Tryd.prog l #[.int .i64 (x.i : Int), .int .u8 (bitA zs (off + x.i))] W fun e W' =>
      (e = .returned (.bool true) ∧ J (pre ++ [x]) W' ∧ Kq S N W W') ∨ (e = .returned (.bool false) ∧ Jx (pre ++ [x]) W'))
    (hI : BM Bn Bf Br off cnt a len cap zs W) (h0 : J [] W) :
    CallsIn Fence.wide n Tryd.prog 38 #[.func (.yield l) #[] #[], .pointer (some ⟨Bn, 0, none⟩), .pointer (some ⟨Bf, 0, none⟩), .pointer (some ⟨Br, 0, none⟩)] W fun e W' => (∃ v, e = .returned v) ∧
      ((∃ ys, ys = bq cnt ∧ J ys W') ∨ (∃ pre, pre <+: bq cnt ∧ Jx pre W')) := by
  have hql := bq_len cnt
  have cN : W.cell? ⟨Bn, 0, none⟩ = some (.int .i64 (cnt : Int)) := by rw [cell_of_row W _ _ _ _ _ hI.n]; rfl
  have HI : Hid (BM Bn Bf Br off cnt a len cap zs W) := hI
  clear hI
  refine callsIn_of_wp Tryd.func38 rfl trivial ?_ rfl
  simp only [Tryd.ntmps38, List.size_toArray, List.length_cons, List.length_nil, Nat.reduceAdd, Nat.reduceSub, Array.replicate_succ, Array.replicate_zero, List.push_toArray, List.append_toArray, List.nil_append, List.cons_append]
  gi_wp2
  gi_loopw [8] (fun u wr => ∃ i : Nat, u = .int .i64 (i : Int) ∧ i ≤ cnt ∧ J ((bq cnt).take i) wr ∧ Hid (BM Bn Bf Br off cnt a len cap zs wr)) (fun u wr => cnt - (intOf u).toNat)
  case atStart => exact ⟨0, rfl, by omega, h0, HI⟩
  case round =>
    obtain ⟨i, rfl, hi, hJi, hB⟩ := hrel
    clear cN
    rcases Nat.lt_or_ge i cnt with him | him
    · have g1 : (i : Int) < cnt := by omega
      have hp : 0 < len := by omega
      obtain ⟨b, o, rfl, hc⟩ := hB.out.row.at_ hp
      have cF : wr.cell? ⟨Bf, 0, none⟩ = some (.int .i64 (off : Int)) := by rw [cell_of_row wr _ _ _ _ _ hB.out.f]; rfl
      have cR : wr.cell? ⟨Br, 0, none⟩ = some (.slice (some ⟨b, o, none⟩) len cap) := by rw [cell_of_row wr _ _ _ _ _ hB.out.r]; rfl
      have cX := hc ((off + i) / 8) (by omega)
      obtain ⟨q, hq⟩ : ∃ q, Hid (q = zs.getD ((off + i) / 8) 0) := ⟨_, rfl⟩
      rw [← hq.out] at cX
      obtain ⟨y, hy0⟩ : ∃ y, Hid (y = bits .and .u8 (q / 2 ^ ((off + i) % 8)) 1) := ⟨_, rfl⟩
      have hyb : Hid (bitA zs (off + i) = y) := by show _ = _; unfold bitA; rw [← hq.out, hy0.out]
      have hlenp : ((bq cnt).take i).length < cnt := by rw [List.length_take]; omega
      have TK : Hid ((bq cnt).take i ++ [⟨i, him⟩] = (bq cnt).take (i + 1)) := bq_at cnt i him
      have hYi := hY _ ⟨i, him⟩ wr hJi hlenp
      dsimp only at hYi
      rw [hyb.out] at hYi
      obtain ⟨fn, tmps, assign, body, hy, hR⟩ := hYi
      have ey : bits .and .u8 (q / 2 ^ ((off + i) % 8)) 1 = y := hy0.out.symm
      clear hc
      have w1 : IntKind.i64.wrap ((off : Int) + (i : Int)) = ((off + i : Nat) : Int) := by rw [IntKind.wrap_i64]; omega
      gi_wp2_with fail
      refine ⟨(fun e => by cases e), ?_⟩
      refine hR.mono ?_
      rintro e W3 (⟨rfl, hJ3, hk3⟩ | ⟨rfl, hJx3⟩)
      · have kI : Hid (BM Bn Bf Br off cnt (some ⟨b, o, none⟩) len cap zs W3) := hB.out.kq hk3 n1 n2 n3 n4
        gi_wp2
        exact ⟨⟨i + 1, by go_num, by omega, by rw [← TK.out]; exact hJ3, kI⟩, by simp [intOf]; omega⟩
      · gi_wp2
        refine bodyPost_ret (results_none rfl _ _ _) rfl ?_
        exact ⟨⟨_, rfl⟩, .inr ⟨_, by rw [TK.out]; exact List.take_prefix _ _, hJx3⟩⟩
    · obtain rfl : i = cnt := by omega
      have FIN : Hid (J (bq i) wr) := by
        have := hJi
        rw [List.take_of_length_le (by omega)] at this
        exact this
      gi_wp2_with fail
      refine bodyPost_end (results_none rfl _ _ _) rfl ?_
      exact ⟨⟨_, rfl⟩, .inl ⟨_, rfl, FIN.out⟩⟩
#print axioms iter_m
end Go.Proofs.YtcdmldnaagiicaaDoor
