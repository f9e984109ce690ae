/-
  The entries of layer 8's example.
  A write that is refused for its value.
  The dictionary of layer 8's example: writes, reads, what is saved.
  The example of layer 8 works.
  DictSaves.
  Proved: DictSaves returns true of any entries, any two rows of calls and any group, where the library's table holds what the program's text lays (the tied card).
-/
import Derived.Test.YtpjmebaipnpegaaDoorDg
import Derived.Test.YtpjmebaipnpegaaDoorHf
import Derived.Test.YtpjmebaipnpegaaDoorNc
import Derived.Test.YtpjmebaipnpegaaDoorTk9
import Derived.Test.YtpjmebaipnpegaaDoorLq
import Derived.WalkKit
import Derived.ProofKit
import Derived.OpenShut
import Derived.Deep.DeepHandedRow
import Derived.MakeChecks
import Derived.Stop.LaidErr
import Derived.ChangeOld
import Derived.ShutString
namespace Go.Proofs.YtpjmebaipnpegaaDoor
open Go.RowKit

def exE8 (n : Nat) : List Em := [⟨8192, 1, ⟨#[97]⟩, 5, 11, some ⟨n, 0, none⟩, 1, 1, some ⟨n + 1, 0, none⟩, 1, 1, some ⟨n + 1 + 1, 0, none⟩, 1, 1, 3, 1, [5], [1], [9]⟩, ⟨8192, 0, ⟨#[]⟩, 5, 1, some ⟨n + 1 + 1 + 1, 0, none⟩, 1, 1, none, 0, 0, none, 0, 0, 0, 0, [1], [], []⟩]
/-- The four rows of bytes. -/
def exB8 (w : World) : World := ((((w.alloc (.cells #[.int .u8 5] 5)).alloc (.cells #[.int .u8 1] 5)).alloc (.cells #[.int .u8 9] 5)).alloc (.cells #[.int .u8 1] 5))
/-- The entries' cells. -/
def exC8 (n : Nat) : Array Value := #[.int .u16 8192, .int .u8 1, .string ⟨#[97]⟩, .int .u8 5, .int .u8 11, .slice (some ⟨n, 0, none⟩) 1 1, .slice (some ⟨n + 1, 0, none⟩) 1 1, .slice (some ⟨n + 1 + 1, 0, none⟩) 1 1, .int .u8 3, .int .u8 1, .int .u16 8192, .int .u8 0, .string ⟨#[]⟩, .int .u8 5, .int .u8 1, .slice (some ⟨n + 1 + 1 + 1, 0, none⟩) 1 1, .slice none 0 0, .slice none 0 0, .int .u8 0, .int .u8 0]
def exW8 (w : World) : World := (exB8 w).alloc (.cells (exC8 w.heap.size) 44)
theorem exB8_size (w : World) : (exB8 w).heap.size = w.heap.size + 1 + 1 + 1 + 1 := by simp [exB8]
theorem exW8_size (w : World) : (exW8 w).heap.size = w.heap.size + 5 := by simp [exW8, exB8_size]
theorem exB8_below (w : World) : Below w.heap.size w (exB8 w) := by unfold exB8; exact (by repeat (first | exact Below.refl _ _ | apply Below.drew | apply Below.al))
theorem exW8_below (w : World) : Below w.heap.size w (exW8 w) := by unfold exW8; exact Below.al (exB8_below w) _
set_option linter.unusedSimpArgs false in
set_option maxHeartbeats 4000000 in
set_option maxRecDepth 100000 in
theorem example8_any (w : World) : Calls Tryd.prog 18 #[] w fun e w' => e = .returned (.slice (some ⟨w.heap.size + 1 + 1 + 1 + 1, 0, none⟩) 2 2) ∧ w' = exW8 w := by
  go_enter Tryd.func18, Tryd.ntmps18
  go_wp2_with fail
  go_ret
  exact ⟨rfl, rfl⟩
theorem oct18 (k : Int) (h0 : 0 ≤ k) (h1 : k ≤ 255) : Oct [k] := fun n hn => by simp at hn; omega
theorem ex8_rows (w : World) : SlOk (exB8 w) (some ⟨w.heap.size, 0, none⟩) 1 1 [5] ∧ SlOk (exB8 w) (some ⟨w.heap.size + 1, 0, none⟩) 1 1 [1] ∧ SlOk (exB8 w) (some ⟨w.heap.size + 1 + 1, 0, none⟩) 1 1 [9] ∧ SlOk (exB8 w) (some ⟨w.heap.size + 1 + 1 + 1, 0, none⟩) 1 1 [1] := by
  obtain ⟨w1, h1⟩ : ∃ w1, w.alloc (.cells #[.int .u8 5] 5) = w1 := ⟨_, rfl⟩
  obtain ⟨w2, h2⟩ : ∃ w2, w1.alloc (.cells #[.int .u8 1] 5) = w2 := ⟨_, rfl⟩
  obtain ⟨w3, h3⟩ : ∃ w3, w2.alloc (.cells #[.int .u8 9] 5) = w3 := ⟨_, rfl⟩
  obtain ⟨w4, h4⟩ : ∃ w4, w3.alloc (.cells #[.int .u8 1] 5) = w4 := ⟨_, rfl⟩
  have he : exB8 w = w4 := by unfold exB8; rw [h1, h2, h3, h4]
  have s1 : w1.heap.size = w.heap.size + 1 := by rw [← h1]; simp
  have s2 : w2.heap.size = w1.heap.size + 1 := by rw [← h2]; simp
  have s3 : w3.heap.size = w2.heap.size + 1 := by rw [← h3]; simp
  have b4 : Below w3.heap.size w3 w4 := by rw [← h4]; exact Below.al (Below.refl _ _) _
  have b3 : Below w2.heap.size w2 w4 := Below.andThen (by rw [← h3]; exact Below.al (Below.refl _ _) _) b4
  have b2 : Below w1.heap.size w1 w4 := Below.andThen (by rw [← h2]; exact Below.al (Below.refl _ _) _) b3
  rw [he]
  refine ⟨SlOk.next ⟨?_, by decide, by decide⟩ b2, SlOk.next ⟨?_, by decide, by decide⟩ b3, SlOk.next ⟨?_, by decide, by decide⟩ b4, ⟨?_, by decide, by decide⟩⟩
  · rw [← h1]; exact row_lit w _ _ _ 1 rfl (oct18 5 (by decide) (by decide)) rfl
  · rw [← h2, ← s1]; exact row_lit w1 _ _ _ 1 rfl (oct18 1 (by decide) (by decide)) rfl
  · rw [← h3, ← s1, ← s2]; exact row_lit w2 _ _ _ 1 rfl (oct18 9 (by decide) (by decide)) rfl
  · rw [← h4, ← s1, ← s2, ← s3]; exact row_lit w3 _ _ _ 1 rfl (oct18 1 (by decide) (by decide)) rfl
theorem ex8_at (w : World) (k : Nat) (e : Em) (he : (exE8 w.heap.size)[k]? = some e) : EmAt (exW8 w) (w.heap.size + 1 + 1 + 1 + 1) k e := by
  have HR : (exW8 w).heap[w.heap.size + 1 + 1 + 1 + 1]? = some (.cells (exC8 w.heap.size) 44 (0, 0)) := at11 _ _ _ (exB8_size w).symm
  rcases k with _ | _ | k
  case succ.succ => simp [exE8] at he
  all_goals
    simp only [exE8, List.getElem?_cons_zero, List.getElem?_cons_succ, Option.some.injEq] at he
    subst he
    refine ⟨?_, ?_, ?_, ?_, ?_, ?_, ?_, ?_, ?_, ?_⟩ <;> (rw [cell_of_row _ _ _ _ _ _ HR]; rfl)
theorem ex8_ok (w : World) : ∀ e ∈ exE8 w.heap.size, EmOk (exW8 w) e := by
  obtain ⟨r0, r1, r2, r3⟩ := ex8_rows w
  have b : Below (exB8 w).heap.size (exB8 w) (exW8 w) := Below.al (Below.refl _ _) _
  have r0 := r0.next b
  have r1 := r1.next b
  have r2 := r2.next b
  have r3 := r3.next b
  have rn := slOk_nil (exW8 w)
  clear b
  intro e he
  simp only [exE8, List.mem_cons, List.not_mem_nil, or_false] at he
  rcases he with rfl | rfl
  · exact ⟨r0, r1, r2, by dsimp only; decide, by dsimp only; decide, by dsimp only; decide, by dsimp only; decide, by dsimp only; decide, by dsimp only; decide, by dsimp only; decide, by dsimp only; decide +kernel, by dsimp only; decide +kernel, by dsimp only; decide +kernel⟩
  · exact ⟨r3, rn, rn, by dsimp only; decide, by dsimp only; decide, by dsimp only; decide, by dsimp only; decide, by dsimp only; decide, by dsimp only; decide, by dsimp only; decide, by dsimp only; decide +kernel, by dsimp only; decide +kernel, by dsimp only; decide +kernel⟩
theorem ex8_dis (n k : Nat) (e : Em) (he : (exE8 n)[k]? = some e) : ∀ e' ∈ (exE8 n).take k, ¬ (e.i = e'.i ∧ e.s = e'.s) := by
  rcases k with _ | _ | k
  case succ.succ => simp [exE8] at he
  all_goals
    simp only [exE8, List.getElem?_cons_zero, List.getElem?_cons_succ, Option.some.injEq] at he
    subst he
    simp [exE8]
set_option linter.unusedSimpArgs false in
set_option maxHeartbeats 4000000 in
set_option maxRecDepth 100000 in
theorem exNew8 (w : World) (hT : Ty.Tab64 (exW8 w)) : Calls Tryd.prog 5 #[.slice (some ⟨w.heap.size + 1 + 1 + 1 + 1, 0, none⟩) 2 2] (exW8 w) (NewPost (exE8 w.heap.size) (exW8 w)) :=
  new_at (w.heap.size + 1 + 1 + 1 + 1) 2 (exE8 w.heap.size) (exW8 w) (by simp [exE8]) (ex8_ok w) (ex8_at w) (fun k e he => ex8_dis _ k e he) hT
end Go.Proofs.YtpjmebaipnpegaaDoor
namespace Go.Proofs.YtpjmebaipnpegaaDoor
open Go.RowKit

set_option linter.unusedSimpArgs false in
set_option maxHeartbeats 4000000 in
set_option maxRecDepth 100000 in
theorem may_bad (p m : Nat) (cg : Int) (lst : Mp) (i s : Int) (nm : ByteArray) (t rt : Int) (d : Option Addr) (ld cd : Nat) (l : Option Addr) (ll cl : Nat) (h : Option Addr) (lh ch : Nat) (tg gr : Int) (v : Option Addr) (lv cv : Nat) (b : Option Addr) (lb cb : Nat) (zb zl zh : List Int) (w : World) (hp : w.heap[p]? = some (.cells #[.map (some m), .int .i64 cg] 50 (0, 0))) (hm : IsM w m lst) (hl : lookP lst i s = some (.agg (itC i s nm t rt d ld cd l ll cl h lh ch tg gr v lv cv))) (rb : SlOk w b lb cb zb) (rl : SlOk w l ll cl zl) (rh : SlOk w h lh ch zh) (hT : Ty.Tab64 w)
    (hr : (bits .and .u8 rt 2 != 0) = true) (code : Int) (hc : Ty.chkN t zb zl zh = code) (hz : code ≠ 0) :
    Calls Tryd.prog 24 #[.pointer (some ⟨p, 0, none⟩), plV i s, .slice b lb cb] w fun e w' => e = .returned (.tuple #[.int .u8 0, .int .u32 code]) ∧ Below w.heap.size w w' := by
  have HF : Hid (∀ W, Below w.heap.size w W → Calls Tryd.prog 33 #[.pointer (some ⟨p, 0, none⟩), plV i s] W fun e w' => e = .returned (.tuple #[.agg (itC i s nm t rt d ld cd l ll cl h lh ch tg gr v lv cv), .int .u32 0]) ∧ Below W.heap.size W w') := fun W hb => find_at p m cg lst i s nm t rt d ld cd l ll cl h lh ch tg gr v lv cv W (blk11 hb hp) (hm.next hb) hl
  have HH : Hid (∀ W, Calls Tryd.prog 34 #[.agg (itC i s nm t rt d ld cd l ll cl h lh ch tg gr v lv cv), .int .u8 2] W fun e w' => e = .returned (.bool true) ∧ Below W.heap.size W w') := fun W => by
    have := has_any i s nm t rt d ld cd l ll cl h lh ch tg gr v lv cv 2 W
    rw [hr] at this
    exact this
  have HC : Hid (∀ W, Below w.heap.size w W → Calls Tryd.prog 28 #[.agg (itC i s nm t rt d ld cd l ll cl h lh ch tg gr v lv cv), .slice b lb cb] W fun e w' => e = .returned (.int .u32 code) ∧ Below W.heap.size W w') := fun W hb => by
    have := icheck_any i s nm t rt d ld cd l ll cl h lh ch tg gr v lv cv b lb cb zb zl zh W (rb.next hb) (rl.next hb) (rh.next hb) (tab_next hT hb)
    rw [hc] at this
    exact this
  clear hp hm hl rb rl rh hT hr hc
  go_enter Tryd.func24, Tryd.ntmps24
  go_wp2_with fail
  refine (HF.out _ (by repeat (first | exact Below.refl _ _ | apply Below.drew | apply Below.al))).mono ?_
  rintro e w1 ⟨rfl, hb⟩
  have B1 : Hid (Below w.heap.size w w1) := Below.andThen (by repeat (first | exact Below.refl _ _ | apply Below.drew | apply Below.al)) hb
  clear hb
  go_wp2_with fail
  refine (HH.out _).mono ?_
  rintro e w2 ⟨rfl, hb⟩
  have B2 : Hid (Below w.heap.size w w2) := Below.andThen (Below.al B1.out _) hb
  have X2 : Hid (w2.heap[w1.heap.size]? = some (.cells (itC i s nm t rt d ld cd l ll cl h lh ch tg gr v lv cv) 54 (0, 0))) := blk11 hb (at11 _ _ _ rfl)
  have l2 := lt_of_heap X2.out
  clear hb
  go_wp2_with (refine wpList_load_by rfl 54 _ rfl ⟨w1.heap.size, 0, none⟩ _ rfl (loadI _ _ i s nm t rt d ld cd l ll cl h lh ch tg gr v lv cv _ X2.out) ?_)
  refine (HC.out _ B2.out).mono ?_
  rintro e w3 ⟨rfl, hb⟩
  have B3 : Hid (Below w.heap.size w w3) := Below.andThen B2.out hb
  clear hb
  go_wp2_with fail
  go_ret2
  exact ⟨rfl, B3.out⟩
set_option linter.unusedSimpArgs false in
set_option maxHeartbeats 4000000 in
set_option maxRecDepth 100000 in
theorem write_bad (p m : Nat) (cg : Int) (lst : Mp) (i s : Int) (nm : ByteArray) (t rt : Int) (d : Option Addr) (ld cd : Nat) (l : Option Addr) (ll cl : Nat) (h : Option Addr) (lh ch : Nat) (tg gr : Int) (v : Option Addr) (lv cv : Nat) (b : Option Addr) (lb cb : Nat) (zb zl zh : List Int) (w : World) (hp : w.heap[p]? = some (.cells #[.map (some m), .int .i64 cg] 50 (0, 0))) (hm : IsM w m lst) (hl : lookP lst i s = some (.agg (itC i s nm t rt d ld cd l ll cl h lh ch tg gr v lv cv))) (rb : SlOk w b lb cb zb) (rl : SlOk w l ll cl zl) (rh : SlOk w h lh ch zh) (hT : Ty.Tab64 w)
    (hr : (bits .and .u8 rt 2 != 0) = true) (code : Int) (hc : Ty.chkN t zb zl zh = code) (hz : code ≠ 0) :
    Calls Tryd.prog 9 #[.pointer (some ⟨p, 0, none⟩), plV i s, .slice b lb cb] w fun e w' => e = .returned (.int .u32 code) ∧ Below w.heap.size w w' := by
  have HM : Hid (∀ W, Below w.heap.size w W → Calls Tryd.prog 24 #[.pointer (some ⟨p, 0, none⟩), plV i s, .slice b lb cb] W fun e w' => e = .returned (.tuple #[.int .u8 0, .int .u32 code]) ∧ Below W.heap.size W w') := fun W hb => may_bad p m cg lst i s nm t rt d ld cd l ll cl h lh ch tg gr v lv cv b lb cb zb zl zh W (blk11 hb hp) (hm.next hb) hl (rb.next hb) (rl.next hb) (rh.next hb) (tab_next hT hb) hr code hc hz
  clear hp hm hl rb rl rh hT hr hc
  go_enter Tryd.func9, Tryd.ntmps9
  go_wp2_with fail
  refine (HM.out _ (by repeat (first | exact Below.refl _ _ | apply Below.drew | apply Below.al))).mono ?_
  rintro e w1 ⟨rfl, hb⟩
  have B1 : Hid (Below w.heap.size w w1) := Below.andThen (by repeat (first | exact Below.refl _ _ | apply Below.drew | apply Below.al)) hb
  clear hb
  go_wp2_with fail
  go_ret
  exact ⟨rfl, B1.out⟩
end Go.Proofs.YtpjmebaipnpegaaDoor
namespace Go.Proofs.YtpjmebaipnpegaaDoor
open Go.RowKit

/-- Bytes that lie elsewhere. -/
def Fa8 (w : World) (S : List Nat) (a : Option Addr) (len cap : Nat) (zs : List Int) : Prop := SlOk w a len cap zs ∧ (0 < len → ∀ b off, a = some ⟨b, off, none⟩ → b ∉ S)
theorem Fa8.next {w w' : World} {S : List Nat} {a : Option Addr} {len cap : Nat} {zs : List Int} (h : Fa8 w S a len cap zs) (hb : Below w.heap.size w w') : Fa8 w' S a len cap zs := ⟨h.1.next hb, h.2⟩
theorem Fa8.kp {w w' : World} {S : List Nat} {a : Option Addr} {len cap : Nat} {zs : List Int} (h : Fa8 w S a len cap zs) (hb : Kp S w w') : Fa8 w' S a len cap zs := ⟨⟨h.1.row.kps hb h.2, h.1.le, h.1.max⟩, h.2⟩
/-- Its two entries. -/
abbrev ls8 (a1 : Option Addr) (c1 : Nat) (a2 : Option Addr) (c2 : Nat) (a3 : Option Addr) (c3 : Nat) (v : Option Addr) (cv : Nat) (b1 : Option Addr) (d1 : Nat) (b2 : Option Addr) (d2 : Nat) (b3 : Option Addr) (d3 : Nat) (u : Option Addr) (du : Nat) : Mp :=
  [(8192, 1, .agg (itC 8192 1 ⟨#[97]⟩ 5 11 a1 1 c1 a2 1 c2 a3 1 c3 3 1 v 1 cv)), (8192, 0, .agg (itC 8192 0 ⟨#[]⟩ 5 1 b1 1 d1 b2 0 d2 b3 0 d3 0 0 u 1 du))]
structure D8 (w : World) (p m : Nat) (cg z : Int) (a1 : Option Addr) (c1 : Nat) (a2 : Option Addr) (c2 : Nat) (a3 : Option Addr) (c3 : Nat) (v : Option Addr) (cv : Nat) (b1 : Option Addr) (d1 : Nat) (b2 : Option Addr) (d2 : Nat) (b3 : Option Addr) (d3 : Nat) (u : Option Addr) (du : Nat) : Prop where
  h : w.heap[p]? = some (.cells #[.map (some m), .int .i64 cg] 50 (0, 0))
  mm : IsM w m (ls8 a1 c1 a2 c2 a3 c3 v cv b1 d1 b2 d2 b3 d3 u du)
  l : Fa8 w [p, m] a2 1 c2 [1]
  g : Fa8 w [p, m] a3 1 c3 [9]
  v : Fa8 w [p, m] v 1 cv [z]
  u : Fa8 w [p, m] u 1 du [1]
  ne : p ≠ m
  tb : Ty.Tab64 w
  old : 1 < p ∧ 1 < m
abbrev DX (w : World) (p m : Nat) (cg z : Int) : Prop := ∃ a1 c1 a2 c2 a3 c3 v cv b1 d1 b2 d2 b3 d3 u du, D8 w p m cg z a1 c1 a2 c2 a3 c3 v cv b1 d1 b2 d2 b3 d3 u du
theorem DX.next {w w' : World} {p m : Nat} {cg z : Int} (h : DX w p m cg z) (hb : Below w.heap.size w w') : DX w' p m cg z := by
  obtain ⟨a1, c1, a2, c2, a3, c3, v, cv, b1, d1, b2, d2, b3, d3, u, du, h⟩ := h
  exact ⟨a1, c1, a2, c2, a3, c3, v, cv, b1, d1, b2, d2, b3, d3, u, du, blk11 hb h.h, h.mm.next hb, h.l.next hb, h.g.next hb, h.v.next hb, h.u.next hb, h.ne, tab_next h.tb hb, h.old⟩
theorem DX.lt {w : World} {p m : Nat} {cg z : Int} (h : DX w p m cg z) : p < w.heap.size ∧ m < w.heap.size := by
  obtain ⟨a1, c1, a2, c2, a3, c3, v, cv, b1, d1, b2, d2, b3, d3, u, du, h⟩ := h
  exact ⟨lt_of_heap h.h, h.mm.lt⟩
theorem exNew8x (w : World) (hT : Ty.Tab64 w) : Calls Tryd.prog 5 #[.slice (some ⟨w.heap.size + 1 + 1 + 1 + 1, 0, none⟩) 2 2] (exW8 w) fun e w1 => ∃ p m, e = .returned (.tuple #[.pointer (some ⟨p, 0, none⟩), .int .i64 0]) ∧ Below w.heap.size w w1 ∧ w.heap.size ≤ p ∧ w.heap.size ≤ m ∧ DX w1 p m 0 5 := by
  have T0 : Ty.Tab64 (exW8 w) := hT.below (exW8_below w) hT.old
  refine (exNew8 w T0).mono ?_
  rintro r w1 ⟨lst, rfl, hb, hd, hm, hB⟩
  obtain ⟨a1, c1, a2, c2, a3, c3, v, lv, cv, g0, k1, k2, k3, k4⟩ := hB.2 0 _ (show (exE8 w.heap.size)[0]? = some _ from rfl)
  obtain ⟨b1, d1, b2, d2, b3, d3, u, lu, du, g1, _, _, _, k8⟩ := hB.2 1 _ (show (exE8 w.heap.size)[1]? = some _ from rfl)
  dsimp only at g0 k1 k2 k3 k4 g1 k8
  have hf : firstL 5 [5] = [5] := by decide +kernel
  have hf1 : firstL 5 [1] = [1] := by decide +kernel
  rw [hf] at k4
  rw [hf1] at k8
  have hlv : lv = 1 := k4.1.row.size.symm
  have hlu : lu = 1 := k8.1.row.size.symm
  subst hlv
  subst hlu
  have hl : lst = ls8 a1 c1 a2 c2 a3 c3 v cv b1 d1 b2 d2 b3 d3 u du := by
    have h2 := hB.1
    rcases lst with _ | ⟨x, _ | ⟨y, _ | ⟨z, t⟩⟩⟩
    · simp at g0
    · simp at g1
    · simp only [List.getElem?_cons_zero, List.getElem?_cons_succ, Option.some.injEq] at g0 g1
      rw [g0, g1]
    · simp [exE8] at h2
  subst hl
  have hs := exW8_size w
  have old := hT.old
  have far : ∀ {a : Option Addr} {len cap : Nat} {zs : List Int}, Kept w1 ((exW8 w).heap.size + 2) a len cap zs → Fa8 w1 [(exW8 w).heap.size + 1, (exW8 w).heap.size] a len cap zs := fun k => ⟨k.1, fun hl b off e => by
    have h1 := k.2 hl b off e
    simp
    omega⟩
  exact ⟨(exW8 w).heap.size + 1, (exW8 w).heap.size, rfl, Below.andThen (exW8_below w) hb, by omega, by omega, a1, c1, a2, c2, a3, c3, v, cv, b1, d1, b2, d2, b3, d3, u, du, hd, hm, far k2, far k3, far k4, far k8, by omega, T0.below hb T0.old, by omega, by omega⟩
theorem rw8 : (bits .and .u8 11 2 != 0) = true := by decide +kernel
theorem rr8 : (bits .and .u8 11 1 != 0) = true := by decide +kernel
theorem hi8 : Ty.chkN 5 [10] [1] [9] = 101253169 := by decide +kernel
theorem ok8 : Ty.chkN 5 [7] [1] [9] = 0 := by decide +kernel
theorem DX.bad {w : World} {p m : Nat} {cg z : Int} (h : DX w p m cg z) (b : Option Addr) (rb : SlOk w b 1 1 [10]) : Calls Tryd.prog 9 #[.pointer (some ⟨p, 0, none⟩), plV 8192 1, .slice b 1 1] w fun e w' => e = .returned (.int .u32 101253169) ∧ Below w.heap.size w w' := by
  obtain ⟨a1, c1, a2, c2, a3, c3, v, cv, b1, d1, b2, d2, b3, d3, u, du, h⟩ := h
  exact write_bad p m cg _ 8192 1 _ 5 11 a1 1 c1 a2 1 c2 a3 1 c3 3 1 v 1 cv b 1 1 [10] [1] [9] w h.h h.mm rfl rb h.l.1 h.g.1 h.tb rw8 101253169 hi8 (by decide)
theorem DX.put {w : World} {p m : Nat} {z : Int} (h : DX w p m 0 z) (b : Option Addr) (rb : SlOk w b 1 1 [7]) : Calls Tryd.prog 9 #[.pointer (some ⟨p, 0, none⟩), plV 8192 1, .slice b 1 1] w fun e w' => e = .returned (.int .u32 0) ∧ DX w' p m 1 7 ∧ Kp [p, m] w w' := by
  obtain ⟨a1, c1, a2, c2, a3, c3, v, cv, b1, d1, b2, d2, b3, d3, u, du, h⟩ := h
  refine (write_at p m 0 _ 8192 1 _ 5 11 a1 1 c1 a2 1 c2 a3 1 c3 3 1 v 1 cv b 1 1 [7] [1] [9] w h.h h.mm rfl rb h.l.1 h.g.1 h.tb rw8 ok8 (by decide) (by decide) (by decide) h.ne).mono ?_
  rintro e w' ⟨rfl, a', c', k, hh, hm, ht⟩
  have lp := lt_of_heap h.h
  have lm := h.mm.lt
  refine ⟨rfl, ⟨a1, c1, a2, c2, a3, c3, a', c', b1, d1, b2, d2, b3, d3, u, du, hh, hm, h.l.kp k, h.g.kp k, ⟨⟨ht.row, ht.le, ht.max⟩, fun hl b off e => ?_⟩, h.u.kp k, h.ne, ?_, h.old⟩, k⟩
  · obtain ⟨g, hg, hge, _⟩ := ht.own hl
    rw [e] at hg
    cases hg
    simp
    omega
  · intro j hj
    have hc := h.tb j hj
    have old := h.old
    rw [World.cell?_of_block (w := w) (k.block _ h.tb.old (by simp; omega))]
    exact hc
theorem DX.read {w : World} {p m : Nat} {cg z : Int} (h : DX w p m cg z) : Calls Tryd.prog 19 #[.pointer (some ⟨p, 0, none⟩), plV 8192 1] w fun e w' => (∃ a' cap', e = .returned (.tuple #[.slice a' 1 cap', .int .u32 0]) ∧ Told w w' a' 1 cap' [z]) ∧ Below w.heap.size w w' := by
  obtain ⟨a1, c1, a2, c2, a3, c3, v, cv, b1, d1, b2, d2, b3, d3, u, du, h⟩ := h
  exact read_at p m cg _ 8192 1 _ 5 11 a1 1 c1 a2 1 c2 a3 1 c3 3 1 v 1 cv [z] w h.h h.mm rfl h.v.1 (by decide) rr8
theorem srt_of {l l' : List Pq} (h : l'.Perm l) (hs : l'.Pairwise fun x y => (!(Go.Proofs.ltOf cfP) y x) = true) : srt l = l' := by
  refine List.Perm.eq_of_pairwise (le := fun x y => (!(Go.Proofs.ltOf cfP) y x) = true) ?_ (srt_sorted l) hs ((srt_perm l).trans h.symm)
  intro a b _ _ h1 h2
  simp only [Bool.not_eq_true'] at h1 h2
  exact totP a b h2 h1
theorem DX.save {w : World} {p m : Nat} {cg z : Int} (h : DX w p m cg z) : Calls Tryd.prog 8 #[.pointer (some ⟨p, 0, none⟩), .int .u8 1] w fun e w' => (∃ v, e = .returned v ∧ IsO w' w.heap.size v [0, 32, 1, 1, 0, z]) ∧ Below w.heap.size w w' := by
  obtain ⟨a1, c1, a2, c2, a3, c3, v, cv, b1, d1, b2, d2, b3, d3, u, du, h⟩ := h
  have hv : Vals w (ls8 a1 c1 a2 c2 a3 c3 v cv b1 d1 b2 d2 b3 d3 u du) (fun _ s => if s = 1 then [z] else [1]) := by
    intro i s q hq
    simp only [lookP] at hq
    split at hq
    · rename_i hc
      simp only [Bool.and_eq_true, beq_iff_eq] at hc
      obtain ⟨rfl, rfl⟩ := hc
      cases hq
      exact ⟨_, _, _, _, _, _, _, _, _, _, _, _, _, _, _, _, _, rfl, by simpa using h.v.1.row, by decide, by decide, by decide⟩
    · split at hq
      · rename_i hc
        simp only [Bool.and_eq_true, beq_iff_eq] at hc
        obtain ⟨rfl, rfl⟩ := hc
        cases hq
        exact ⟨_, _, _, _, _, _, _, _, _, _, _, _, _, _, _, _, _, rfl, by simpa using h.u.1.row, by decide, by decide, by decide⟩
      · cases hq
  have hk : srt (keysOf (ls8 a1 c1 a2 c2 a3 c3 v cv b1 d1 b2 d2 b3 d3 u du)) = [⟨8192, 0⟩, ⟨8192, 1⟩] := by
    refine srt_of (List.Perm.swap _ _ _) ?_
    simp [ltP]
  have b0 : (bits .and .u8 1 8 != 0) = false := by decide +kernel
  have b1' : (bits .and .u8 11 8 != 0) = true := by decide +kernel
  have hs : sto (ls8 a1 c1 a2 c2 a3 c3 v cv b1 d1 b2 d2 b3 d3 u du) 1 = [⟨8192, 1⟩] := by
    unfold sto
    rw [hk]
    simp [lookP, stB, stI, b0, b1']
  have hb : savK (ls8 a1 c1 a2 c2 a3 c3 v cv b1 d1 b2 d2 b3 d3 u du) 1 (fun _ s => if s = 1 then [z] else [1]) 1 = [0, 32, 1, 1, 0, z] := by
    unfold savK
    rw [hs]
    simp [recB]
  refine (save_any p m cg 1 _ _ w h.h h.mm hv (by simp)).mono ?_
  rintro e w' ⟨q, rfl, hq, hbl⟩
  rw [hs] at hq
  rw [show ([⟨8192, 1⟩] : List Pq).length = 1 from rfl, hb] at hq
  exact ⟨⟨q, rfl, hq⟩, hbl⟩
#print axioms DX.save
end Go.Proofs.YtpjmebaipnpegaaDoor
namespace Go.Proofs.YtpjmebaipnpegaaDoor
open Go.RowKit

theorem oct68 : Oct [0, 32, 1, 1, 0, 7] := by intro n hn; simp at hn; omega
theorem o10 : Oct [10] := oct18 10 (by decide) (by decide)
theorem o7 : Oct [7] := oct18 7 (by decide) (by decide)
theorem sl_lit (w : World) (zs : List Int) (ho : Oct zs) (hz : zs.length ≤ maxLen) (T : TypeId) : SlOk (w.alloc (.cells (zs.map (Value.int .u8)).toArray T)) (some ⟨w.heap.size, 0, none⟩) zs.length zs.length zs := ⟨row_lit w _ T zs zs.length rfl ho rfl, Nat.le_refl _, hz⟩
set_option linter.unusedSimpArgs false in
set_option maxHeartbeats 4000000 in
set_option maxRecDepth 100000 in
theorem works8 (w : World) (hT : Ty.Tab64 w) : Calls Tryd.prog 6 #[] w fun e w' => e = .returned (.bool true) ∧ Below w.heap.size w w' := by
  have HT : Hid (Ty.Tab64 w) := hT
  clear hT
  go_enter Tryd.func6, Tryd.ntmps6
  go_wp2_with fail
  refine (example8_any w).mono ?_
  rintro r w0 ⟨rfl, rfl⟩
  go_wp2_with fail
  refine (exNew8x w HT.out).mono ?_
  rintro r w1 ⟨p, m, rfl, hb, hp, hm, hd⟩
  have B1 : Hid (Below w.heap.size w w1) := hb
  have D1 : Hid (DX w1 p m 0 5) := hd
  have P1 : Hid (w.heap.size ≤ p ∧ w.heap.size ≤ m) := ⟨hp, hm⟩
  have lp := hd.lt.1
  clear hb hd hp hm HT
  go_wp2_with fail
  refine ((D1.out.next (by repeat (first | exact Below.refl _ _ | apply Below.drew | apply Below.al))).bad _ ?_).mono ?_
  · have := sl_lit (w1.alloc (.cells #[.int .u16 8192, .int .u8 1] 33)) [10] o10 (by decide) 5
    simpa using this
  rintro r w2 ⟨rfl, hb⟩
  have B2 : Hid (Below w.heap.size w w2) := Below.andThen (Below.al (Below.al B1.out _) _) hb
  have D2 : Hid (DX w2 p m 0 5) := (D1.out.next (by repeat (first | exact Below.refl _ _ | apply Below.drew | apply Below.al))).next hb
  have L2 : Hid (w2.heap[w1.heap.size]? = some (.cells #[.int .u16 8192, .int .u8 1] 33 (0, 0))) := blk11 hb (ext11 (at11 _ _ _ rfl))
  obtain ⟨q0, q1⟩ : w2.cell? ⟨w1.heap.size, 0, none⟩ = some (.int .u16 8192) ∧ w2.cell? ⟨w1.heap.size, 1, none⟩ = some (.int .u8 1) := by
    constructor
    · rw [cell_of_row _ _ 0 _ _ _ L2.out]; rfl
    · rw [cell_of_row _ _ 1 _ _ _ L2.out]; rfl
  clear hb
  go_wp2_with fail
  refine ((D2.out.next (by repeat (first | exact Below.refl _ _ | apply Below.drew | apply Below.al))).put _ ?_).mono ?_
  · exact sl_lit w2 [7] o7 (by decide) 5
  rintro r w3 ⟨rfl, hd, hk⟩
  have P2 := P1.out
  have B3 : Hid (Below w.heap.size w w3) := Kp.below (Below.al B2.out _) hk (by have := B2.out.size; simp; omega) (by simp; omega)
  have D3 : Hid (DX w3 p m 1 7) := hd
  have L3 : Hid (w3.heap[w1.heap.size]? = some (.cells #[.int .u16 8192, .int .u8 1] 33 (0, 0))) := hk.at (by have := D1.out.lt; simp; omega) (ext11 L2.out)
  obtain ⟨q2, q3⟩ : w3.cell? ⟨w1.heap.size, 0, none⟩ = some (.int .u16 8192) ∧ w3.cell? ⟨w1.heap.size, 1, none⟩ = some (.int .u8 1) := by
    constructor
    · rw [cell_of_row _ _ 0 _ _ _ L3.out]; rfl
    · rw [cell_of_row _ _ 1 _ _ _ L3.out]; rfl
  clear hd hk q0 q1 P2
  go_wp2_with fail
  refine D3.out.read.mono ?_
  rintro r w4 ⟨⟨a, cap, rfl, ht⟩, hb⟩
  have B4 : Hid (Below w.heap.size w w4) := Below.andThen B3.out hb
  have D4 : Hid (DX w4 p m 1 7) := D3.out.next hb
  have R4 : Hid (Row w4 a 1 [7]) := ht.row
  clear ht hb q2 q3
  go_wp2_with fail
  refine (same_bytes8 a _ 1 cap 1 1 [7] [7] _ (R4.out.next (by repeat (first | exact Below.refl _ _ | apply Below.drew | apply Below.al))) (row_lit w4 _ _ [7] 1 rfl o7 rfl)).mono ?_
  rintro r w5 ⟨rfl, rfl⟩
  have e7 : ((strOfNums [7]).toList == (strOfNums [7]).toList) = true := by simp
  rw [e7]
  clear e7
  go_wp2_with fail
  refine (D4.out.next (by repeat (first | exact Below.refl _ _ | apply Below.drew | apply Below.al))).save.mono ?_
  rintro r w6 ⟨⟨v6, rfl, ho⟩, hb⟩
  have B6 : Hid (Below w.heap.size w w6) := Below.andThen (Below.al B4.out _) hb
  obtain ⟨a6, c6, rfl, _, _, hr6⟩ := ho.row oct68
  have R6 : Hid (Row w6 a6 6 [0, 32, 1, 1, 0, 7]) := hr6
  clear ho hb hr6
  go_wp2_with fail
  refine (same_bytes8 a6 _ 6 c6 6 6 [0, 32, 1, 1, 0, 7] [0, 32, 1, 1, 0, 7] _ (R6.out.next (by repeat (first | exact Below.refl _ _ | apply Below.drew | apply Below.al))) (row_lit w6 _ _ [0, 32, 1, 1, 0, 7] 6 rfl oct68 rfl)).mono ?_
  rintro r w7 ⟨rfl, rfl⟩
  have e7 : ((strOfNums [0, 32, 1, 1, 0, 7]).toList == (strOfNums [0, 32, 1, 1, 0, 7]).toList) = true := by simp
  rw [e7]
  clear e7
  go_wp2_with fail
  go_ret
  exact ⟨rfl, Below.al B6.out _⟩
#print axioms works8
end Go.Proofs.YtpjmebaipnpegaaDoor
namespace Go.Proofs.YtpjmebaipnpegaaDoor
open Go.RowKit

theorem IsEn.next {w w' : World} {a : Option Addr} {len : Nat} {es : List Em} (h : IsEn w a len es) (hW : Below w.heap.size w w') : IsEn w' a len es := ⟨h.size, fun e he => (h.ok e he).next hW, fun hp => by
  obtain ⟨b, off, e, hc⟩ := h.at_ hp
  refine ⟨b, off, e, fun k x hx => ?_⟩
  obtain ⟨m0, m1, m2, m3, m4, m5, m6, m7, m8, m9⟩ := hc k x hx
  exact ⟨(hW.cell (block_lt_of_cell m0)).trans m0, (hW.cell (block_lt_of_cell m1)).trans m1, (hW.cell (block_lt_of_cell m2)).trans m2, (hW.cell (block_lt_of_cell m3)).trans m3, (hW.cell (block_lt_of_cell m4)).trans m4, (hW.cell (block_lt_of_cell m5)).trans m5, (hW.cell (block_lt_of_cell m6)).trans m6, (hW.cell (block_lt_of_cell m7)).trans m7, (hW.cell (block_lt_of_cell m8)).trans m8, (hW.cell (block_lt_of_cell m9)).trans m9⟩⟩
theorem IsSp.next {w w' : World} {a : Option Addr} {len : Nat} {vs : List Sp} (h : IsSp w a len vs) (hW : Below w.heap.size w w') : IsSp w' a len vs := ⟨h.size, fun e he => ⟨(h.ok e he).1.next hW, (h.ok e he).2⟩, fun hp => by
  obtain ⟨b, off, e, hc⟩ := h.at_ hp
  refine ⟨b, off, e, fun k x hx => ?_⟩
  obtain ⟨m0, m1, m2, m3, m4⟩ := hc k x hx
  exact ⟨(hW.cell (block_lt_of_cell m0)).trans m0, (hW.cell (block_lt_of_cell m1)).trans m1, (hW.cell (block_lt_of_cell m2)).trans m2, (hW.cell (block_lt_of_cell m3)).trans m3, (hW.cell (block_lt_of_cell m4)).trans m4⟩⟩
theorem Dk.oct {w : World} {p m : Nat} {cg : Int} {ks : List Pq} {I : Int → Int → Option It} {G : Int → Int → Int} (hD : Dk w p m cg ks I G) (i s : Int) : Oct (valI I i s) := by
  obtain ⟨lst, _, _, h3, _⟩ := hD
  unfold valI
  rcases h3 i s with ⟨_, e⟩ | ⟨y, hy, nm, d, ld, cd, l, ll, cl, h, lh, ch, gr, v, lv, cv, zd, _, _, _, _, r4, _⟩
  · rw [e]; exact oct_nil
  · rw [hy]; exact r4.row.oct
theorem savI_oct {w : World} {p m : Nat} {cg : Int} {ks : List Pq} {I : Int → Int → Option It} {G : Int → Int → Int} (hD : Dk w p m cg ks I G) (hR : ∀ x ∈ ks, (0 ≤ x.i ∧ x.i < 65536) ∧ 0 ≤ x.s ∧ x.s < 256) (g : Int) : Oct (savI ks I G g) := fun n hn => by
  unfold savI at hn
  obtain ⟨x, hx, hq⟩ := List.mem_flatMap.1 hn
  have hr := hR x (stoK_mem hx).1
  exact recB_oct hr.1.1 hr.1.2 hr.2.1 hr.2.2 (hD.oct x.i x.s) n hq
theorem savI_len {ks : List Pq} {I : Int → Int → Option It} (hO : OkI I) (G : Int → Int → Int) (g : Int) : (savI ks I G g).length ≤ ks.length * 4101 := by
  have h1 : (stoK ks I G g).length ≤ ks.length := by
    unfold stoK
    refine Nat.le_trans (List.length_filter_le _ _) ?_
    rw [(srt_perm ks).length_eq]
    exact Nat.le_refl _
  have h2 : ∀ l : List Pq, (l.flatMap fun x => recB x.i x.s (valI I x.i x.s)).length ≤ l.length * 4101 := fun l => by
    induction l with
    | nil => simp
    | cons x l ih =>
      rw [List.flatMap_cons, List.length_append, recB_len, List.length_cons]
      have : (valI I x.i x.s).length ≤ 4096 := by
        unfold valI
        cases hq : I x.i x.s with
        | none => simp
        | some y => exact chkN_len (hO _ _ _ hq)
      omega
  exact Nat.le_trans (h2 _) (Nat.mul_le_mul_right _ h1)
theorem ldA_ok {I : Int → Int → Option It} (hO : OkI I) (G : Int → Int → Int) (g : Int) (zs : List Int) (rs : List R4) : OkI (ldA G g zs rs I).1 := by
  have : ∀ (l : List R4) (st : (Int → Int → Option It) × Nat), OkI st.1 → OkI (l.foldl (ld1 G g zs) st).1 := fun l => by
    induction l with
    | nil => intro st h; exact h
    | cons r l ih =>
      intro st h
      rw [List.foldl_cons]
      refine ih _ ?_
      unfold ld1
      split
      · rename_i hok
        intro j q x hx
        dsimp only at hx
        unfold putI at hx
        by_cases hj : (j == r.1 && q == r.2.1) = true
        · rw [if_pos hj] at hx
          unfold okL at hok
          cases hq : st.1 r.1 r.2.1 with
          | none => rw [hq] at hok; cases hok
          | some y =>
            rw [hq] at hok hx
            simp only [Bool.and_eq_true, beq_iff_eq] at hok
            cases hx
            exact hok.2
        · rw [if_neg hj] at hx
          exact h j q x hx
      · exact h
  exact this rs (I, 0) hO
theorem SameI.some8 {es : List Em} (hn : (ksE es).Nodup) {J : Int → Int → Option It} (hS : SameI (itE es) J) : ∀ e ∈ es, ∃ it, J e.i e.s = some it := fun e he => by
  have h1 := (itE_at es hn e he).1
  rcases hS e.i e.s with ⟨q1, _⟩ | ⟨x, y, q1, q2, _⟩
  · rw [h1] at q1; cases q1
  · exact ⟨y, q2⟩

set_option linter.unusedSimpArgs false in
set_option maxHeartbeats 4000000 in
set_option maxRecDepth 100000 in
theorem dictSaves_any {w : World} {a0 : Option Addr} {len0 : Nat} {es : List Em} (h0 : IsEn w a0 len0 es) (cap0 : Nat) (lm0 : len0 ≤ maxLen) {a1 : Option Addr} {len1 : Nat} {vs : List Sp} (h1 : IsSp w a1 len1 vs) (cap1 : Nat) (lm1 : len1 ≤ maxLen) {a2 : Option Addr} {len2 : Nat} {us : List Sp} (h2 : IsSp w a2 len2 us) (cap2 : Nat) (lm2 : len2 ≤ maxLen) (g : Int) (hT : Ty.Tab64 w) :
    Calls Tryd.prog 3 #[.slice a0 len0 cap0, .slice a1 len1 cap1, .slice a2 len2 cap2, .int .u8 g] w fun e w' => e = .returned (.bool true) ∧ Below w.heap.size w w' := by
  have HT : Hid (Ty.Tab64 w) := hT
  have H0 : Hid (IsEn w a0 len0 es) := h0
  have H1 : Hid (IsSp w a1 len1 vs) := h1
  have H2 : Hid (IsSp w a2 len2 us) := h2
  have HWK : Hid (∀ W, Below w.heap.size w W → Calls Tryd.prog 6 #[] W fun e w' => e = .returned (.bool true) ∧ Below w.heap.size w w') := fun W hb => (works8 W (tab_next hT hb)).mono fun e w' ⟨h1, h2⟩ => ⟨h1, Below.andThen hb h2⟩
  have FE1 := few8 h0 cap0 lm0 h1 cap1 lm1
  have HFE : Hid (∀ W, Below w.heap.size w W → Calls Tryd.prog 4 #[.slice a0 len0 cap0, .slice a2 len2 cap2] W (FewPost es len0 us len2 W)) := fun W hW => few8 (h0.next hW) cap0 lm0 (h2.next hW) cap2 lm2
  clear h0 h1 h2 hT
  go_enter Tryd.func3, Tryd.ntmps3
  go_wp2_with fail
  refine FE1.mono ?_
  rintro e w1 ⟨b1, rfl, hf1, hb⟩
  have B1 : Hid (Below w.heap.size w w1) := hb
  have F1 : Hid (b1 = true → len0 ≤ 40 → (∀ e ∈ es, e.ld ≤ 2000 ∧ e.ll ≤ 2000 ∧ e.lh ≤ 2000) ∧ len1 ≤ 60 ∧ ∀ x ∈ vs, x.n ≤ 8000) := hf1
  clear FE1 hf1 hb
  cases b1
  case false =>
    go_wp2_with fail
    go_ret
    exact ⟨rfl, B1.out⟩
  have G1 : Hid (len0 ≤ 40 → (∀ e ∈ es, e.ld ≤ 2000 ∧ e.ll ≤ 2000 ∧ e.lh ≤ 2000) ∧ len1 ≤ 60 ∧ ∀ x ∈ vs, x.n ≤ 8000) := F1.out rfl
  clear F1
  have FE2 := HFE.out _ B1.out
  go_wp2_with fail
  refine FE2.mono ?_
  rintro e w2 ⟨b2, rfl, hf2, hb⟩
  have B2 : Hid (Below w.heap.size w w2) := Below.andThen B1.out hb
  have F2 : Hid (b2 = true → len0 ≤ 40 → (∀ e ∈ es, e.ld ≤ 2000 ∧ e.ll ≤ 2000 ∧ e.lh ≤ 2000) ∧ len2 ≤ 60 ∧ ∀ x ∈ us, x.n ≤ 8000) := hf2
  clear FE2 hf2 hb HFE B1
  cases b2
  case false =>
    go_wp2_with fail
    go_ret
    exact ⟨rfl, B2.out⟩
  have G2 : Hid (len0 ≤ 40 → (∀ e ∈ es, e.ld ≤ 2000 ∧ e.ll ≤ 2000 ∧ e.lh ≤ 2000) ∧ len2 ≤ 60 ∧ ∀ x ∈ us, x.n ≤ 8000) := F2.out rfl
  clear F2
  by_cases hl : 40 < len0
  · have gl : (40 : Int) < (len0 : Int) := by omega
    go_wp2_with fail
    go_ret
    exact ⟨rfl, B2.out⟩
  have gl : ¬ ((40 : Int) < (len0 : Int)) := by omega
  have hin : ∀ e ∈ es, EmIn w2 e := fun e he => by
    have a := (H0.out.next B2.out).ok e he
    have b := (G1.out (by omega)).1 e he
    exact ⟨a.rd, a.rl, a.rh, by omega, by omega, by omega⟩
  have HIN : Hid (∀ e ∈ es, EmIn w2 e) := hin
  obtain ⟨eb, eo, had0, hat0⟩ : ∃ b off, (0 < es.length → a0 = some ⟨b, off, none⟩) ∧ ∀ (k : Nat) (e : Em), es[k]? = some e → EmAtO w2 b off k e := by
    by_cases hz : 0 < len0
    · obtain ⟨b, off, e, h⟩ := (H0.out.next B2.out).at_ hz
      exact ⟨b, off, fun _ => e, h⟩
    · have hs := H0.out.size
      refine ⟨0, 0, fun h => by omega, fun k x hx => ?_⟩
      have := (List.getElem?_eq_some_iff.1 hx).1
      omega
  have NW := new_any a0 eb eo cap0 es w2 had0 hin hat0 (tab_next HT.out B2.out)
  rw [H0.out.size] at NW
  clear had0 hat0 hin
  go_wp2_with fail
  refine NW.mono ?_
  rintro e w3 (⟨hc, lst, rfl, hb, hp, hm, hbu⟩ | ⟨hc, rfl, hb⟩)
  case inr =>
    have B3 : Hid (Below w.heap.size w w3) := Below.andThen B2.out hb
    have hc' : ¬ newC es = 0 := hc
    clear NW hb
    go_wp2_with fail
    refine (HWK.out _ B3.out).mono ?_
    rintro e w9 ⟨rfl, hb⟩
    go_wp2_with fail
    go_ret
    exact ⟨rfl, hb⟩
  have B3 : Hid (Below w.heap.size w w3) := Below.andThen B2.out hb
  have ND : Hid ((ksE es).Nodup) := newC_nodup hc
  have DK : Hid (Dk w3 (w2.heap.size + 1) w2.heap.size 0 (ksE es) (itE es) (grE es)) := dk_new hp hm hbu hc HIN.out (tab_next HT.out B3.out)
  have OK0 : Hid (OkI (itE es)) := okI_new hc
  obtain ⟨P, hP⟩ : ∃ P, Hid (P = w2.heap.size + 1) := ⟨_, rfl⟩
  obtain ⟨M, hM⟩ : ∃ M, Hid (M = w2.heap.size) := ⟨_, rfl⟩
  rw [← hP.out, ← hM.out] at DK
  rw [← hP.out]
  have NE : Hid (P ≠ M) := by have := hP.out; have := hM.out; show _ ≠ _; omega
  have GE : Hid (∀ b ∈ [P, M], w.heap.size ≤ b) := fun b hb => by
    have := hP.out
    have := hM.out
    have := B2.out.size
    simp at hb
    omega
  have RNG : Hid (∀ x ∈ ksE es, (0 ≤ x.i ∧ x.i < 65536) ∧ 0 ≤ x.s ∧ x.s < 256) := fun x hx => by
    unfold ksE at hx
    obtain ⟨e, he, rfl⟩ := List.mem_map.1 hx
    have := H0.out.ok e he
    exact ⟨this.wi, this.ws⟩
  have KL : Hid ((ksE es).length = len0) := by show _ = _; unfold ksE; rw [List.length_map, H0.out.size]
  obtain ⟨I0, hI0⟩ : ∃ I0, Hid (I0 = itE es) := ⟨_, rfl⟩
  obtain ⟨G, hG⟩ : ∃ G, Hid (G = grE es) := ⟨_, rfl⟩
  obtain ⟨ks, hks⟩ : ∃ ks, Hid (ks = ksE es) := ⟨_, rfl⟩
  rw [← hI0.out, ← hG.out, ← hks.out] at DK
  rw [← hI0.out] at OK0
  rw [← hks.out] at RNG KL
  have NDK : Hid ks.Nodup := by show ks.Nodup; rw [hks.out]; exact ND.out
  have HV1 : Hid (len1 ≤ 60 ∧ ∀ x ∈ vs, x.n ≤ 8000) := (G1.out (by omega)).2
  have HV2 : Hid (len2 ≤ 60 ∧ ∀ x ∈ us, x.n ≤ 8000) := (G2.out (by omega)).2
  clear NW hb hp hm hbu hc G1 G2 HIN hP hM B2
  go_wp2_with fail
  go_loopw [11] (fun iv wr => ∃ k : Nat, k ≤ len1 ∧ iv = .int .i64 (k : Int) ∧ Hid (Below w.heap.size w wr ∧ ∃ J c, Dk wr P M c ks J G ∧ SameI I0 J ∧ OkI J ∧ 0 ≤ c ∧ c ≤ k)) (fun iv _ => len1 - (intOf iv).toNat)
  case atStart => exact ⟨0, Nat.zero_le _, rfl, B3.out, I0, 0, DK.out, SameI.refl _, OK0.out, Int.le_refl _, by simp⟩
  case round =>
    obtain ⟨k, hk, rfl, HR⟩ := hrel
    obtain ⟨hB, J, c, hD, hS, hO, hc0, hc1⟩ := HR.out
    have BR : Hid (Below w.heap.size w wr) := hB
    have DR : Hid (Dk wr P M c ks J G) := hD
    have SJ : Hid (SameI I0 J) := hS
    have OJ : Hid (OkI J) := hO
    have CC : Hid (0 ≤ c ∧ c ≤ k) := ⟨hc0, hc1⟩
    clear hB hD hS hO hc0 hc1 HR
    by_cases hkN : k < len1
    · have gk : (k : Int) < (len1 : Int) := by omega
      have gk0 : (0 : Int) ≤ (k : Int) := by omega
      obtain ⟨gb, go, rfl, hat⟩ := (H1.out.next BR.out).at_ (by omega)
      obtain ⟨x, hx⟩ : ∃ x, vs[k]? = some x := ⟨_, List.getElem?_eq_getElem (by have := H1.out.size; omega)⟩
      have hmem := List.mem_of_getElem? hx
      obtain ⟨d0, d1, d2, d3, d4⟩ := hat k x hx
      have WR := writes8 DR.out NDK.out (H0.out.next BR.out) cap0 (SameI.some8 ND.out (by rw [← hI0.out]; exact SJ.out)) x ((H1.out.next BR.out).ok x hmem).1 (HV1.out.2 x hmem) CC.out.1 (by have := CC.out.2; have := HV1.out.1; omega) NE.out (by omega)
      obtain ⟨xk, xi, xs, xa, xn, xc, xz, xg⟩ := x
      dsimp only [Sp.A] at d0 d1 d2 d3 d4 WR
      have wk : IntKind.i64.wrap ((k : Int) + 1) = ((k + 1 : Nat) : Int) := by have := HV1.out.1; rw [IntKind.wrap_i64]; omega
      clear hat hx hmem
      go_wp2_with fail
      refine WR.mono ?_
      rintro e z ⟨rfl, c', J', hd, hs, hok, q1, q2, hkp⟩
      have F : Hid (Below w.heap.size w z ∧ ∃ J c, Dk z P M c ks J G ∧ SameI I0 J ∧ OkI J ∧ 0 ≤ c ∧ c ≤ (k + 1 : Nat)) := ⟨Kp.below BR.out hkp BR.out.size GE.out, J', c', hd, SJ.out.trans hs, hok OJ.out, by have := CC.out; omega, by have := CC.out; omega⟩
      clear WR hd hs hok q1 q2 hkp d0 d1 d2 d3 d4
      go_wp2_with fail
      exact ⟨⟨k + 1, by omega, by go_num, F.out⟩, by simp [intOf]; omega⟩
    obtain rfl : k = len1 := by omega
    have SV := DR.out.save OJ.out (fun x hx => (RNG.out x hx).1) (by have := KL.out; omega) g
    obtain ⟨zs, hzs⟩ : ∃ zs, Hid (zs = savI ks J G g) := ⟨_, rfl⟩
    rw [← hzs.out] at SV
    have ZO : Hid (Oct zs) := by show Oct _; rw [hzs.out]; exact savI_oct DR.out RNG.out g
    have ZL : Hid (zs.length ≤ 200000) := by show _ ≤ _; rw [hzs.out]; have := savI_len (ks := ks) OJ.out G g; have := KL.out; omega
    go_wp2_with fail
    refine SV.mono ?_
    rintro e w5 ⟨v, rfl, hv, hb⟩
    obtain ⟨sa, sc, rfl, hsc, hscm, hsr⟩ := hv.row ZO.out
    have B5 : Hid (Below w.heap.size w w5) := Below.andThen BR.out hb
    have D5 : Hid (Dk w5 P M c ks J G) := DR.out.next hb
    have S5 : Hid (SlOk w5 sa zs.length sc zs) := ⟨hsr, hsc, hscm⟩
    obtain ⟨sn, hsn⟩ : ∃ sn, Hid (sn = zs.length) := ⟨_, rfl⟩
    rw [← hsn.out] at S5 ⊢
    have hsn2 : sn ≤ 200000 := by have := ZL.out; have := hsn.out; omega
    clear SV hb hv hsc hscm hsr BR DR
    go_wp2_with fail
    go_loopw [13] (fun iv wr => ∃ k : Nat, k ≤ len2 ∧ iv = .int .i64 (k : Int) ∧ Hid (Below w.heap.size w wr ∧ SlOk wr sa sn sc zs ∧ ∃ J2 c2, Dk wr P M c2 ks J2 G ∧ SameI J J2 ∧ OkI J2 ∧ 0 ≤ c2 ∧ c2 ≤ 60 + k)) (fun iv _ => len2 - (intOf iv).toNat)
    case atStart => exact ⟨0, Nat.zero_le _, rfl, B5.out, S5.out, J, c, D5.out, SameI.refl _, OJ.out, CC.out.1, by have := CC.out.2; have := HV1.out.1; omega⟩
    case round =>
      obtain ⟨j, hj, rfl, HR⟩ := hrel
      obtain ⟨hB, hSl, J2, c2, hD, hS, hO, hc0, hc1⟩ := HR.out
      have BR : Hid (Below w.heap.size w wr) := hB
      have SR : Hid (SlOk wr sa sn sc zs) := hSl
      have DR : Hid (Dk wr P M c2 ks J2 G) := hD
      have SJ2 : Hid (SameI J J2) := hS
      have OJ2 : Hid (OkI J2) := hO
      have CC2 : Hid (0 ≤ c2 ∧ c2 ≤ 60 + j) := ⟨hc0, hc1⟩
      clear hB hSl hD hS hO hc0 hc1 HR
      by_cases hjN : j < len2
      · have gj : (j : Int) < (len2 : Int) := by omega
        have gj0 : (0 : Int) ≤ (j : Int) := by omega
        obtain ⟨gb, go, rfl, hat⟩ := (H2.out.next BR.out).at_ (by omega)
        obtain ⟨x, hx⟩ : ∃ x, us[j]? = some x := ⟨_, List.getElem?_eq_getElem (by have := H2.out.size; omega)⟩
        have hmem := List.mem_of_getElem? hx
        obtain ⟨d0, d1, d2, d3, d4⟩ := hat j x hx
        have hxn := HV2.out.2 x hmem
        have hsl := ((H2.out.next BR.out).ok x hmem).1
        obtain ⟨xk, xi, xs, xa, xn, xc, xz, xg⟩ := x
        dsimp only at d0 d1 d2 d3 d4 hxn hsl
        have CEL : Hid (∀ W, Below wr.heap.size wr W → W.cell? ⟨gb, go + j * 5 + 1, none⟩ = some (.int .u16 xi) ∧ W.cell? ⟨gb, go + j * 5 + 2, none⟩ = some (.int .u8 xs) ∧ W.cell? ⟨gb, go + j * 5 + 3, none⟩ = some (.slice xa xn xc)) := fun W hW => ⟨(hW.cell (block_lt_of_cell d1)).trans d1, (hW.cell (block_lt_of_cell d2)).trans d2, (hW.cell (block_lt_of_cell d3)).trans d3⟩
        obtain ⟨_, _, hq, hat0⟩ := H2.out.at_ (by omega)
        cases hq
        have hx0 := hat0 j _ hx
        dsimp only at hx0
        have CEW : Hid (∀ W, Below w.heap.size w W → W.cell? ⟨gb, go + j * 5 + 1, none⟩ = some (.int .u16 xi) ∧ W.cell? ⟨gb, go + j * 5 + 2, none⟩ = some (.int .u8 xs) ∧ W.cell? ⟨gb, go + j * 5 + 3, none⟩ = some (.slice xa xn xc)) := fun W hW => ⟨(hW.cell (block_lt_of_cell hx0.2.1)).trans hx0.2.1, (hW.cell (block_lt_of_cell hx0.2.2.1)).trans hx0.2.2.1, (hW.cell (block_lt_of_cell hx0.2.2.2.1)).trans hx0.2.2.2.1⟩
        clear hx0 hat0 CEL
        have HWR : Hid (∀ W, Below wr.heap.size wr W → Calls Tryd.prog 9 #[.pointer (some ⟨P, 0, none⟩), plV xi xs, .slice xa xn xc] W fun e w' => ∃ c', e = .returned (.int .u32 c') ∧ ((c' ≠ 0 ∧ Below W.heap.size W w') ∨ (c' = 0 ∧ mayI J2 xi xs xz ∧ Dk w' P M (c2 + 1) ks (putI J2 xi xs xz) G ∧ Kp [P, M] W w'))) := fun W hW => (DR.out.next hW).write xi xs xa xn xc xz (hsl.next hW) (by omega) CC2.out.1 (by have := CC2.out.2; have := HV2.out.1; omega) NE.out
        have wj : IntKind.i64.wrap ((j : Int) + 1) = ((j + 1 : Nat) : Int) := by have := HV2.out.1; rw [IntKind.wrap_i64]; omega
        clear hat hx hmem hsl hxn d0 d1 d2 d3 d4
        go_wp2_with fail
        refine wp_region_held_drew (S := fun z => Below w.heap.size w z) (by kernel_rfl) (⟨BR.out.os, BR.out.tape, BR.out.output, BR.out.size, BR.out.block⟩) (fun hHeld => ?_)
        refine tk 0 (.pointer (some ⟨P, 0, none⟩)) rfl (.inl ⟨by rfl, ?_⟩) ?_
        · intro w9 hSw
          try dsimp only at hSw
          go_simp
          all_goals try decide
          all_goals try assumption
          all_goals try omega
        try simp only [Act.put, gA, gS, gZ, sA, sZ, sS]
        refine tk 1 (.slice (some ⟨gb, go, none⟩) len2 cap2) rfl (.inl ⟨by rfl, ?_⟩) ?_
        · intro w9 hSw
          try dsimp only at hSw
          go_simp
          all_goals try decide
          all_goals try assumption
          all_goals try omega
        try simp only [Act.put, gA, gS, gZ, sA, sZ, sS]
        refine tk 2 (.int .i64 (j : Int)) rfl (.inl ⟨by rfl, ?_⟩) ?_
        · intro w9 hSw
          try dsimp only at hSw
          go_simp
          all_goals try decide
          all_goals try assumption
          all_goals try omega
        try simp only [Act.put, gA, gS, gZ, sA, sZ, sS]
        refine tk 3 (.pointer (some ⟨gb, go + j * 5, none⟩)) rfl (.inl ⟨by rfl, ?_⟩) ?_
        · intro w9 hSw
          try dsimp only at hSw
          go_simp
          all_goals try decide
          all_goals try assumption
          all_goals try omega
        try simp only [Act.put, gA, gS, gZ, sA, sZ, sS]
        refine tk 4 (.pointer (some ⟨gb, go + j * 5 + 1, none⟩)) rfl (.inl ⟨by rfl, ?_⟩) ?_
        · intro w9 hSw
          try dsimp only at hSw
          go_simp
          all_goals try decide
          all_goals try assumption
          all_goals try omega
        try simp only [Act.put, gA, gS, gZ, sA, sZ, sS]
        refine tk 5 (plV xi xs) rfl (.inl ⟨by rfl, ?_⟩) ?_
        · intro w9 hSw
          try dsimp only at hSw
          obtain ⟨z1, z2, z3⟩ := CEW.out w9 hSw
          go_simp
          all_goals try assumption
        try simp only [Act.put, gA, gS, gZ, sA, sZ, sS]
        refine tk 6 (.slice (some ⟨gb, go, none⟩) len2 cap2) rfl (.inl ⟨by rfl, ?_⟩) ?_
        · intro w9 hSw
          try dsimp only at hSw
          go_simp
          all_goals try decide
          all_goals try assumption
          all_goals try omega
        try simp only [Act.put, gA, gS, gZ, sA, sZ, sS]
        refine tk 7 (.int .i64 (j : Int)) rfl (.inl ⟨by rfl, ?_⟩) ?_
        · intro w9 hSw
          try dsimp only at hSw
          go_simp
          all_goals try decide
          all_goals try assumption
          all_goals try omega
        try simp only [Act.put, gA, gS, gZ, sA, sZ, sS]
        refine tk 8 (.pointer (some ⟨gb, go + j * 5, none⟩)) rfl (.inl ⟨by rfl, ?_⟩) ?_
        · intro w9 hSw
          try dsimp only at hSw
          go_simp
          all_goals try decide
          all_goals try assumption
          all_goals try omega
        try simp only [Act.put, gA, gS, gZ, sA, sZ, sS]
        refine tk 9 (.pointer (some ⟨gb, go + j * 5 + 3, none⟩)) rfl (.inl ⟨by rfl, ?_⟩) ?_
        · intro w9 hSw
          try dsimp only at hSw
          go_simp
          all_goals try decide
          all_goals try assumption
          all_goals try omega
        try simp only [Act.put, gA, gS, gZ, sA, sZ, sS]
        refine tk 10 (.slice xa xn xc) rfl (.inl ⟨by rfl, ?_⟩) ?_
        · intro w9 hSw
          try dsimp only at hSw
          obtain ⟨z1, z2, z3⟩ := CEW.out w9 hSw
          go_simp
          all_goals try assumption
        try simp only [Act.put, gA, gS, gZ, sA, sZ, sS]
        refine wpAnyH_ready (rs := [11]) (by kernel_rfl) (by simp) ?_
        refine AllReadyH.cons rfl (fun K' hK => ?_) AllReadyH.nil
        rw [if_pos (by rfl)]
        simp only [gA, gS, gZ]
        go_wp2_with fail
        refine (HWR.out _ (Below.drew (Below.refl _ _))).mono ?_
        rintro e z3 ⟨cc, rfl, hor⟩
        have F : Hid (Below w.heap.size w z3 ∧ SlOk z3 sa sn sc zs ∧ ∃ J2 c2, Dk z3 P M c2 ks J2 G ∧ SameI J J2 ∧ OkI J2 ∧ 0 ≤ c2 ∧ c2 ≤ 60 + (j + 1 : Nat)) := by
          show _ ∧ _
          have hdw : Below wr.heap.size wr wr.drew := Below.drew (Below.refl _ _)
          rcases hor with ⟨_, hb⟩ | ⟨_, hmay, hd, hk⟩
          · exact ⟨Below.andThen (Below.andThen BR.out hdw) hb, (SR.out.next hdw).next hb, J2, c2, (DR.out.next hdw).next hb, SJ2.out, OJ2.out, CC2.out.1, by have := CC2.out.2; omega⟩
          · exact ⟨Kp.below (Below.andThen BR.out hdw) hk BR.out.size GE.out, (SR.out.next hdw).kpK (DR.out.next hdw) hk, _, _, hd, SJ2.out.put _ _ _, OJ2.out.put hmay, by have := CC2.out.1; omega, by have := CC2.out.2; omega⟩
        clear hor
        try go_wp2_with fail
        refine hK.out _ _ (F.out.1) (fun hHeld => ?_)
        clear hK K'
        try simp only [Act.put, gA, gS, gZ, sA, sZ, sS]
        refine wpAnyH_done (by kernel_rfl) ?_ _
        go_wp2_with fail
        exact ⟨⟨j + 1, by omega, by go_num, F.out⟩, by simp [intOf]; omega⟩
      obtain rfl : j = len2 := by omega
      obtain ⟨rs, ls1, ls2, ls3, ls4⟩ := load_saved NDK.out RNG.out OJ.out SJ2.out G g
      rw [← hzs.out] at ls1 ls2 ls3 ls4
      have LDC := DR.out.load g sa sn sc zs SR.out (by omega) CC2.out.1 (by have := CC2.out.2; have := HV2.out.1; omega) NE.out
      obtain ⟨J3, hJ3⟩ : ∃ J3, Hid (J3 = (ldA G g zs rs J2).1) := ⟨_, rfl⟩
      obtain ⟨CN, hCN⟩ : ∃ CN, Hid (CN = cntE es g) := ⟨_, rfl⟩
      have LN : Hid ((ldA G g zs rs J2).2 = CN) := by
        show _ = _
        rw [ls2, hCN.out, hks.out, hG.out]
        exact stoK_cnt ND.out (by rw [← hI0.out]; exact SJ.out) g
      have O3 : Hid (OkI J3) := by show OkI _; rw [hJ3.out]; exact ldA_ok OJ2.out G g zs rs
      have SV3 : Hid (savI ks J3 G g = zs) := by show _ = _; rw [hJ3.out, ls4]
      have R1 : Hid (rcs zs (zs.length + 1) 0 [] = some rs) := ls1
      clear ls1 ls2 ls3 ls4
      go_wp2_with fail
      refine LDC.mono ?_
      rintro e w6 (⟨hno, _⟩ | ⟨rs', c6, hrs, rfl, hd6, hk6⟩)
      · exact absurd (hno.symm.trans R1.out) (by simp)
      obtain rfl : rs' = rs := Option.some.inj (hrs.symm.trans R1.out)
      rw [← hJ3.out] at hd6
      rw [LN.out]
      have B6 : Hid (Below w.heap.size w w6) := Kp.below BR.out hk6 BR.out.size GE.out
      have D6 : Hid (Dk w6 P M c6 ks J3 G) := hd6
      have S6 : Hid (SlOk w6 sa sn sc zs) := SR.out.kpK DR.out hk6
      clear LDC hrs hd6 hk6
      have hCN40 : CN ≤ 40 := by have h1 := hCN.out; unfold cntE at h1; have h2 := List.length_filter_le (fun e : Em => stI e.rt e.gr g) es; have h3 := H0.out.size; omega
      go_wp2_with fail
      go_loopw [16, 17] (fun tv iv wr => ∃ k t : Nat, k ≤ len0 ∧ t ≤ k ∧ iv = .int .i64 (k : Int) ∧ tv = .int .i64 (t : Int) ∧ Hid (t = cntE (es.take k) g ∧ Below w6.heap.size w6 wr)) (fun _ iv _ => len0 - (intOf iv).toNat)
      case atStart => exact ⟨0, 0, Nat.zero_le _, Nat.le_refl _, rfl, rfl, rfl, Below.refl _ _⟩
      case round =>
        obtain ⟨q, t, hq, htq, rfl, rfl, HR⟩ := hrel
        have HTT : Hid (t = cntE (es.take q) g) := HR.out.1
        have BQ : Hid (Below w6.heap.size w6 wr) := HR.out.2
        clear HR
        by_cases hqN : q < len0
        · have gq : (q : Int) < (len0 : Int) := by omega
          have gq0 : (0 : Int) ≤ (q : Int) := by omega
          obtain ⟨eb, eo, rfl, hat⟩ := (H0.out.next (Below.andThen B6.out BQ.out)).at_ (by omega)
          obtain ⟨e, he⟩ : ∃ e, es[q]? = some e := ⟨_, List.getElem?_eq_getElem (by have := H0.out.size; omega)⟩
          obtain ⟨_, _, _, _, m4, _, _, _, _, m9⟩ := hat q e he
          have CT := cntE_take es g q e he
          rw [← HTT.out] at CT
          obtain ⟨ert, HRT⟩ : ∃ y, Hid (y = e.rt) := ⟨_, rfl⟩
          obtain ⟨egr, HGR⟩ : ∃ y, Hid (y = e.gr) := ⟨_, rfl⟩
          rw [← HRT.out] at m4 CT
          rw [← HGR.out] at m9 CT
          unfold stI at CT
          have wq : IntKind.i64.wrap ((q : Int) + 1) = ((q + 1 : Nat) : Int) := by rw [IntKind.wrap_i64]; omega
          have wt : IntKind.i64.wrap ((t : Int) + 1) = ((t + 1 : Nat) : Int) := by rw [IntKind.wrap_i64]; omega
          clear hat he
          by_cases hr8 : bits .and .u8 ert 8 = 0
          · have CT2 : Hid (t = cntE (es.take (q + 1)) g) := by show _ = _; rw [CT]; simp [hr8]
            clear CT
            go_wp2_with fail
            exact ⟨⟨q + 1, t, by omega, by omega, by go_num, rfl, CT2.out, BQ.out⟩, by simp [intOf]; omega⟩
          by_cases hgg : egr = g
          · have CT2 : Hid (t + 1 = cntE (es.take (q + 1)) g) := by show _ = _; rw [CT]; simp [hr8, hgg]
            clear CT
            go_wp2_with fail
            exact ⟨⟨q + 1, t + 1, by omega, by omega, by go_num, by go_num, CT2.out, BQ.out⟩, by simp [intOf]; omega⟩
          · have CT2 : Hid (t = cntE (es.take (q + 1)) g) := by show _ = _; rw [CT]; simp [hgg]
            clear CT
            have hgf : (egr == g) = false := by simpa using hgg
            have hgd : decide (egr = g) = false := decide_eq_false hgg
            go_wp2_with fail
            exact ⟨⟨q + 1, t, by omega, by omega, by go_num, rfl, CT2.out, BQ.out⟩, by simp [intOf]; omega⟩
        obtain rfl : q = len0 := by omega
        obtain rfl : t = CN := by rw [hCN.out, HTT.out, List.take_of_length_le (by rw [H0.out.size]; exact Nat.le_refl _)]
        have D7 : Hid (Dk wr P M c6 ks J3 G) := D6.out.next BQ.out
        have SVC := D7.out.save O3.out (fun x hx => (RNG.out x hx).1) (by have := KL.out; omega) g
        rw [SV3.out] at SVC
        have B7 : Hid (Below w.heap.size w wr) := Below.andThen B6.out BQ.out
        go_wp2_with fail
        refine SVC.mono ?_
        rintro e w8 ⟨v, rfl, hv, hb⟩
        obtain ⟨ta, tc, rfl, _, _, htr⟩ := hv.row ZO.out
        have B8 : Hid (Below w.heap.size w w8) := Below.andThen B7.out hb
        have SB : Hid (Calls Tryd.prog 11 #[.slice ta zs.length tc, .slice sa sn sc] w8 fun e w' => e = .returned (.bool true) ∧ w' = w8) := same_row8 tc sc htr ((S6.out.next BQ.out).next hb).row
        clear SVC hv hb htr
        go_wp2_with fail
        refine SB.out.mono ?_
        rintro e w8 ⟨rfl, rfl⟩
        go_wp2_with fail
        refine (HWK.out _ B8.out).mono ?_
        rintro e w9 ⟨rfl, hb⟩
        go_wp2_with fail
        go_ret
        exact ⟨rfl, hb⟩
#print axioms dictSaves_any
end Go.Proofs.YtpjmebaipnpegaaDoor
namespace Go.Proofs.YtpjmebaipnpegaaDoor
open Go.ChangeShapes Go.WideShapes Go.ChangeAt Go.RowKit
open Go.ChangeMaps (open_string shut_string)

namespace dictSaves
theorem laid_met (os : Os) : laidMet Tryd.prog Rows.dictSavesRow.laid (({ World.holding Tryd.prog os ⟨#[], #[], []⟩ with heap := (World.holding Tryd.prog os ⟨#[], #[], []⟩).heap.modify 1 (put (Lib.deBruijn64tab.map fun n : Nat => Value.int .u8 (n : Int)).toArray) } : World).forCall (fun _ _ => 0) ⟨#[], #[.slice none 0 0, .slice none 0 0, .slice none 0 0, .int .u8 0], []⟩).memory :=
  laidMet_of_run' 8 (by kernel_rfl) (by kernel_rfl)
theorem reads (os : Os) {H : Type} (enc : TypeId × Value → H) : ∃ places, DataW.whole enc Tryd.prog (({ World.holding Tryd.prog os ⟨#[], #[], []⟩ with heap := (World.holding Tryd.prog os ⟨#[], #[], []⟩).heap.modify 1 (put (Lib.deBruijn64tab.map fun n : Nat => Value.int .u8 (n : Int)).toArray) } : World).forCall (fun _ _ => 0) ⟨#[], #[.slice none 0 0, .slice none 0 0, .slice none 0 0, .int .u8 0], []⟩).memory Tryd.f3.params.toList Rows.dictSavesSpec.vars false (#[.slice none 0 0, .slice none 0 0, .slice none 0 0, .int .u8 0] : Array Value).toList 8 = some ([.nil, .nil, .nil, .lit (.int .u8 0)], [], places) :=
  ⟨[], by kernel_rfl⟩

set_option maxRecDepth 100000 in
theorem contract (H : Type) (enc : TypeId × Value → H) (W : World) (base : Nat) (args : Array Value) (ds gs : List (DataW H)) (before : List MemPlace)
    (hval : ∀ (j : Nat) t v, Tryd.f3.params[j]? = some t → args[j]? = some v → Value.okWide Tryd.prog W .any base t v)
    (hW : DataW.Whole enc Tryd.prog Tryd.f3.params.toList Rows.dictSavesSpec.vars false W args.toList ds gs before) (hL : laidMetH Tryd.prog Rows.dictSavesRow.laid W) (hsz : ∀ (j : Nat) (t : TypeId) (d : DataW H), Tryd.f3.params.toList[j]? = some t → ds[j]? = some d → ∀ n ∈ d.weights Tryd.prog t, n ≤ reachBytes) :
    Calls Tryd.prog 3 args W fun e W' => ∃ v, e = .returned v ∧ Rows.dictSavesSpec.post enc Tryd.prog Tryd.f3 false true false false W args v W' := by
  have hW' := hW
  obtain ⟨p, q, hA0, hV, rfl, hfz, hnd⟩ := hW
  have hA : DataW.TrodAll enc Tryd.prog W 0 (fun _ => true) true Tryd.f3.params.toList args.toList ds p := hA0
  rw [Tryd.params3] at hA hval hsz
  obtain ⟨v0, vs0, d0, ds0, p0, q0, hargs, rfl, rfl, h0, r0⟩ := trodAll_cons hA
  obtain ⟨v1, vs1, d1, ds1, p1, q1, rfl, rfl, rfl, h1, r1⟩ := trodAll_cons r0
  obtain ⟨v2, vs2, d2, ds2, p2, q2, rfl, rfl, rfl, h2, r2⟩ := trodAll_cons r1
  obtain ⟨v3, vs3, d3, ds3, p3, q3, rfl, rfl, rfl, h3, r3⟩ := trodAll_cons r2
  obtain ⟨rfl, rfl, rfl⟩ := trodAll_nil r3
  obtain rfl : args = #[v0, v1, v2, v3] := by cases args; simp_all
  obtain ⟨rfl, rfl⟩ := trodVars_none hV
  have k0 := h0
  have lt0 : ∀ x ∈ p0, x.block < W.heap.size := by obtain ⟨m, hm⟩ := k0; exact DataW.trod_lt m _ _ _ hm
  obtain ⟨a0, len0, cap0, rfl⟩ := okWide_slice Tryd.underlying22 (hval 0 22 v0 rfl rfl)
  obtain ⟨l0, o0, lc0⟩ : ∃ l, IsEn W a0 len0 l ∧ len0 ≤ maxLen := by
    obtain ⟨fuel, hf⟩ := h0
    obtain ⟨a', len', cap', l, e, ho, hc, hm⟩ := open_en (v := .slice a0 len0 cap0) hf (hsz 0 22 _ rfl rfl)
    cases e
    exact ⟨l, ho, Nat.le_trans hc hm⟩
  have k1 := h1
  have lt1 : ∀ x ∈ p1, x.block < W.heap.size := by obtain ⟨m, hm⟩ := k1; exact DataW.trod_lt m _ _ _ hm
  obtain ⟨a1, len1, cap1, rfl⟩ := okWide_slice Tryd.underlying23 (hval 1 23 v1 rfl rfl)
  obtain ⟨l1, o1, lc1⟩ : ∃ l, IsSp W a1 len1 l ∧ len1 ≤ maxLen := by
    obtain ⟨fuel, hf⟩ := h1
    obtain ⟨a', len', cap', l, e, ho, hc, hm⟩ := open_sp (v := .slice a1 len1 cap1) hf (hsz 1 23 _ rfl rfl)
    cases e
    exact ⟨l, ho, Nat.le_trans hc hm⟩
  have k2 := h2
  have lt2 : ∀ x ∈ p2, x.block < W.heap.size := by obtain ⟨m, hm⟩ := k2; exact DataW.trod_lt m _ _ _ hm
  obtain ⟨a2, len2, cap2, rfl⟩ := okWide_slice Tryd.underlying23 (hval 2 23 v2 rfl rfl)
  obtain ⟨l2, o2, lc2⟩ : ∃ l, IsSp W a2 len2 l ∧ len2 ≤ maxLen := by
    obtain ⟨fuel, hf⟩ := h2
    obtain ⟨a', len', cap', l, e, ho, hc, hm⟩ := open_sp (v := .slice a2 len2 cap2) hf (hsz 2 23 _ rfl rfl)
    cases e
    exact ⟨l, ho, Nat.le_trans hc hm⟩
  obtain ⟨a3, rfl, rfl, rfl, w3⟩ := open_int Tryd.underlying5 (hval 3 5 v3 rfl rfl) h3
  clear hA0
  refine (dictSaves_any o0 cap0 lc0 o1 cap1 lc1 o2 cap2 lc2 a3 (tab10 hL)).mono fun e W' ⟨he, bel⟩ => ?_
  subst he
  exact ⟨_, rfl, _, _, _, [], _, [], hW', trodAll_mk1 (shut_bool Tryd.underlying4 _), (trodAll_cons_mk (Below.trod laidOut (by kernel_rfl) (of_decide_eq_true (by kernel_rfl)) k0 bel lt0) (trodAll_cons_mk (Below.trod laidOut (by kernel_rfl) (of_decide_eq_true (by kernel_rfl)) k1 bel lt1) (trodAll_cons_mk (Below.trod laidOut (by kernel_rfl) (of_decide_eq_true (by kernel_rfl)) k2 bel lt2) (trodAll_cons_mk (shut_int Tryd.underlying5 w3) trodAll_mk0)))), rfl, bel.frame _, fun h => by cases h⟩

set_option maxRecDepth 100000 in
theorem lifted (os : Os) (started : os.Started) (H : Type) (enc : TypeId × Value → H) (F : Stop.Interp) :
    ReturnsInHanded {} Tryd.checked os 3 .any ((OpenSpec.ofChange Rows.dictSavesSpec).preRow enc Tryd.prog Tryd.f3 Rows.dictSavesRow.domain false Rows.dictSavesRow.laid) (((OpenSpec.ofChange Rows.dictSavesSpec).at F).post enc Tryd.prog Tryd.f3 false true false false) := by
  obtain ⟨places, hx⟩ := reads os enc
  refine returnsInHanded_of_row (C := Tryd.checked) (s := OpenSpec.ofChange Rows.dictSavesSpec) own started (by kernel_rfl) Tryd.func3
    (witness_row_at (enc := enc) (C := Tryd.checked) false ({ World.holding Tryd.prog os ⟨#[], #[], []⟩ with heap := (World.holding Tryd.prog os ⟨#[], #[], []⟩).heap.modify 1 (put (Lib.deBruijn64tab.map fun n : Nat => Value.int .u8 (n : Int)).toArray) } : World) #[.slice none 0 0, .slice none 0 0, .slice none 0 0, .int .u8 0] rfl (by kernel_rfl) (by kernel_rfl) (by kernel_rfl)
      (OpenSpec.preRow_of_cond 8 hx (by kernel_rfl) (fun k hk => by cases hk) (by kernel_rfl) (laid_met os))) ?_
  intro W base args ds gs before hval hW _ _ hsz hL _ _
  exact contract H enc W base args ds gs before hval hW hL (sized_of hsz)

theorem said : Rows.DictSavesSaid :=
  OpenClaim.holds_of_cond 3 Tryd.f3 rfl rfl rfl rfl rfl rfl rfl ⟨rfl, rfl, rfl, rfl, rfl⟩ rfl rfl rfl rfl rfl (by kernel_rfl) Tryd.func3 (by kernel_rfl)
    (of_decide_eq_true (by kernel_rfl)) (by unfold Func.isWrapper; first | (rw [if_pos (by decide +kernel)]; kernel_rfl) | (rw [if_neg (by decide +kernel)]; exact ⟨rfl, rfl⟩))
    (fun os started H enc _ F => by rw [OpenClaim.pre_eq_preRow]; exact lifted os started H enc F)

theorem plain (f : FuncId) (fn : Func) (hf : Tryd.pinned.checked.prog.funcNamed "campanile/campanilelaw08.DictSaves" = some f) (hfn : Tryd.pinned.checked.prog.funcs[f]? = some fn) :
    false = Tryd.pinned.checked.prog.looks [] ∧ ∀ (j : Nat) t, fn.params[j]? = some t → Tryd.pinned.checked.prog.wantsStandIn t = false := by
  obtain rfl : f = 3 := Option.some.inj ((show Tryd.prog.funcNamed "campanile/campanilelaw08.DictSaves" = some 3 by kernel_rfl).symm.trans hf) |>.symm
  obtain rfl : fn = Tryd.f3 := (Option.some.inj (Tryd.func3.symm.trans hfn)).symm
  refine ⟨by kernel_rfl, fun j t ht => ?_⟩
  rw [Tryd.params3] at ht
  have hm := Array.mem_of_getElem? ht
  simp at hm
  rcases hm with rfl | rfl | rfl
  · exact (show Tryd.prog.wantsStandIn 22 = false by kernel_rfl)
  · exact (show Tryd.prog.wantsStandIn 23 = false by kernel_rfl)
  · exact (show Tryd.prog.wantsStandIn 5 = false by kernel_rfl)
end dictSaves

/-- DictSaves, the tied card. -/
theorem dictSaves_holds : Rows.DictSavesCardSaid :=
  Claim7.holds_tied_plain_at .later [] _ _ _ _ dictSaves.said (fun _ h => by cases h) (by kernel_rfl) (fun _ h => by cases h) dictSaves_row_tie rfl ⟨rfl, rfl⟩ (by kernel_rfl) rfl dictSaves.plain (by kernel_rfl)
#print axioms dictSaves_holds
end Go.Proofs.YtpjmebaipnpegaaDoor
