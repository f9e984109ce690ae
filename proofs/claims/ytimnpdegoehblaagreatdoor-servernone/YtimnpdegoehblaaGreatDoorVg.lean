/-
  The commands and answers of the example.
  The example's write and read are heard.
  The example of a write and a read works.
  ServerNone returns true.
  Frames that came in, as the rows read them.
-/
import Derived.Test.YtimnpdegoehblaaGreatDoorSv
import Derived.Test.YtimnpdegoehblaaGreatDoorSx
import Derived.Test.YtimnpdegoehblaaGreatDoorVb
import Derived.Test.YtimnpdegoehblaaGreatDoorTk9
import Derived.WalkKit
import Derived.ProofKit
import Derived.OpenShut
namespace Go.Proofs.YtimnpdegoehblaaGreatDoor
open Go.RowKit

def cW : Cm := ⟨1, 8192, 1, true, 0, true, [7], false, false, false, 0, 0, 0, 0, 0⟩
def cR : Cm := ⟨3, 8192, 1, false, 0, false, [], false, false, false, 0, 0, 0, 0, 0⟩
def dW : Cm := ⟨1, 8192, 1, false, 0, false, [], false, false, false, 0, 0, 0, 0, 0⟩
def dR : Cm := ⟨3, 8192, 1, true, 0, true, [7], false, false, false, 0, 0, 0, 0, 0⟩
theorem okcW : cW.Ok := by constructor <;> first | decide | (intro n hn; simp [cW] at hn; omega)
theorem okcR : cR.Ok := by constructor <;> first | decide | (intro n hn; simp [cR] at hn)
theorem okdW : dW.Ok := by constructor <;> first | decide | (intro n hn; simp [dW] at hn)
theorem okdR : dR.Ok := by constructor <;> first | decide | (intro n hn; simp [dR] at hn; omega)
theorem eW : askP cW = some ⟨47, 0, 32, 1, 7, 0, 0, 0⟩ := by decide +kernel
theorem eR : askP cR = some ⟨64, 0, 32, 1, 0, 0, 0, 0⟩ := by decide +kernel
theorem fW : ansP dW = some ⟨96, 0, 32, 1, 0, 0, 0, 0⟩ := by decide +kernel
theorem fR : ansP dR = some ⟨79, 0, 32, 1, 7, 0, 0, 0⟩ := by decide +kernel
theorem nW : askedP ⟨47, 0, 32, 1, 7, 0, 0, 0⟩ = some cW := by decide +kernel
theorem nR : askedP ⟨64, 0, 32, 1, 0, 0, 0, 0⟩ = some cR := by decide +kernel

theorem askW (a : Option Addr) (W : World) (hr : Row W a 1 [7]) : Calls Tryz.prog 36 #[cmV 1 8192 1 true 0 true a 1 1 false false false 0 0 0 0 0] W fun e w' => e = .returned (.tuple #[arr8 47 0 32 1 7 0 0 0, .int .i64 0]) ∧ Below W.heap.size W w' := by
  have := ask_any cW okcW a 1 W hr
  rw [eW] at this
  exact this
theorem askR10 (W : World) : Calls Tryz.prog 36 #[cmV 3 8192 1 false 0 false none 0 0 false false false 0 0 0 0 0] W fun e w' => e = .returned (.tuple #[arr8 64 0 32 1 0 0 0 0, .int .i64 0]) ∧ Below W.heap.size W w' := by
  have := ask_any cR okcR none 0 W (row_nil _)
  rw [eR] at this
  exact this
theorem ansW (W : World) : Calls Tryz.prog 37 #[cmV 1 8192 1 false 0 false none 0 0 false false false 0 0 0 0 0] W fun e w' => e = .returned (.tuple #[arr8 96 0 32 1 0 0 0 0, .int .i64 0]) ∧ Below W.heap.size W w' := by
  have := answer_any dW okdW none 0 W (row_nil _)
  rw [fW] at this
  exact this
theorem ansR10 (a : Option Addr) (CP : Nat) (W : World) (hr : Row W a 1 [7]) : Calls Tryz.prog 37 #[cmV 3 8192 1 true 0 true a 1 CP false false false 0 0 0 0 0] W fun e w' => e = .returned (.tuple #[arr8 79 0 32 1 7 0 0 0, .int .i64 0]) ∧ Below W.heap.size W w' := by
  have := answer_any dR okdR a CP W hr
  rw [fR] at this
  exact this
theorem adW (W : World) : Calls Tryz.prog 24 #[arr8 47 0 32 1 7 0 0 0] W fun e w' => ∃ b cb, e = .returned (.tuple #[cmV 1 8192 1 true 0 true b 1 cb false false false 0 0 0 0 0, .int .i64 0]) ∧ Told W w' b 1 cb [7] ∧ Below W.heap.size W w' := by
  have := asked_any ⟨47, 0, 32, 1, 7, 0, 0, 0⟩ (by constructor <;> decide) W
  rw [nW] at this
  exact this
theorem adR (W : World) : Calls Tryz.prog 24 #[arr8 64 0 32 1 0 0 0 0] W fun e w' => ∃ b cb, e = .returned (.tuple #[cmV 3 8192 1 false 0 false b 0 cb false false false 0 0 0 0 0, .int .i64 0]) ∧ Below W.heap.size W w' := by
  have := asked_any ⟨64, 0, 32, 1, 0, 0, 0, 0⟩ (by constructor <;> decide) W
  rw [nR] at this
  refine Calls.mono this ?_
  rintro e w' ⟨a, cap, rfl, _, hb⟩
  exact ⟨a, cap, rfl, hb⟩
end Go.Proofs.YtimnpdegoehblaaGreatDoor
namespace Go.Proofs.YtimnpdegoehblaaGreatDoor
open Go.RowKit

/-- A row that lies apart from some blocks. -/
def Far (w : World) (X : List Nat) (a : Option Addr) (len cap : Nat) (zs : List Int) : Prop := SlOk w a len cap zs ∧ (0 < len → ∀ b off, a = some ⟨b, off, none⟩ → b ∉ X)
theorem Far.kp {w w' : World} {X S : List Nat} {a : Option Addr} {len cap : Nat} {zs : List Int} (h : Far w X a len cap zs) (k : Kp S w w') (hS : ∀ b ∈ S, b ∈ X ∨ w.heap.size ≤ b) : Far w' X a len cap zs :=
  ⟨⟨h.1.row.kps k (fun hl b off e hb => by
    have h1 := h.2 hl b off e
    have h2 := h.1.row.old hl b off e
    rcases hS b hb with h3 | h3
    · exact h1 h3
    · omega), h.1.le, h.1.max⟩, h.2⟩
theorem Kp.cel {S : List Nat} {w w' : World} (k : Kp S w w') (p : Addr) (h : p.block < w.heap.size) (hn : p.block ∉ S) : w'.cell? p = w.cell? p := by simp only [World.cell?, k.block _ h hn]
theorem tab_kp {S : List Nat} {w w' : World} (h : Ty.Tab64 w) (k : Kp S w w') (hn : 1 ∉ S) : Ty.Tab64 w' := fun j hj => by
  rw [k.cel _ h.old hn]
  exact h j hj
theorem look_same (l : Mp) (i s : Int) (v : Value) : lookP (putP l i s v) i s = some v := by
  induction l with
  | nil => simp [putP, lookP]
  | cons x l ih =>
    obtain ⟨j, r, u⟩ := x
    by_cases hx : i = j ∧ s = r
    · obtain ⟨rfl, rfl⟩ := hx
      simp [putP, lookP]
    · simp [putP, lookP, hx, ih]
/-- The example's server and its dictionary stand. -/
structure Rdy (sp dp m : Nat) (cg : Int) (lst : Mp) (d : Option Addr) (cd : Nat) (l : Option Addr) (cl : Nat) (h : Option Addr) (ch : Nat) (v : Option Addr) (cv : Nat) (zv : Int) (w : World) : Prop where
  s : w.heap[sp]? = some (.cells (svC 5 dp 10 none) 41 (0, 0))
  c : w.heap[dp]? = some (.cells #[.map (some m), .int .i64 cg] 70 (0, 0))
  mm : IsM w m lst
  rd : Far w [sp, dp, m] d 1 cd [5]
  rl : Far w [sp, dp, m] l 1 cl [1]
  rh : Far w [sp, dp, m] h 1 ch [9]
  rv : Far w [sp, dp, m] v 1 cv [zv]
  tb : Ty.Tab64 w
  lk : lookP lst 8192 1 = some (.agg (itC 8192 1 ⟨#[]⟩ 5 3 d 1 cd l 1 cl h 1 ch 3 0 v 1 cv))
  n1 : sp ≠ dp
  n2 : sp ≠ m
  n3 : dp ≠ m
  gg : 1 ∉ [sp, dp, m]
theorem Rdy.next {sp dp m : Nat} {cg : Int} {lst : Mp} {d : Option Addr} {cd : Nat} {l : Option Addr} {cl : Nat} {h : Option Addr} {ch : Nat} {v : Option Addr} {cv : Nat} {zv : Int} {w : World} (r : Rdy sp dp m cg lst d cd l cl h ch v cv zv w) {W : World} (hb : Below w.heap.size w W) : Rdy sp dp m cg lst d cd l cl h ch v cv zv W where
  s := blk11 hb r.s
  c := blk11 hb r.c
  mm := r.mm.next hb
  rd := r.rd.kp (Kp.of (S := []) hb) (by simp)
  rl := r.rl.kp (Kp.of (S := []) hb) (by simp)
  rh := r.rh.kp (Kp.of (S := []) hb) (by simp)
  rv := r.rv.kp (Kp.of (S := []) hb) (by simp)
  tb := tab_kp r.tb (Kp.of (S := []) hb) (by simp)
  lk := r.lk
  n1 := r.n1
  n2 := r.n2
  n3 := r.n3
  gg := r.gg
theorem Rdy.env {sp dp m : Nat} {cg : Int} {lst : Mp} {d : Option Addr} {cd : Nat} {l : Option Addr} {cl : Nat} {h : Option Addr} {ch : Nat} {v : Option Addr} {cv : Nat} {zv : Int} {w : World} (r : Rdy sp dp m cg lst d cd l cl h ch v cv zv w) : Env [sp] w dp m cg lst 8192 1 ⟨#[]⟩ 5 3 d 1 cd l 1 cl h 1 ch 3 0 v 1 cv [5] [1] [9] := fun W k =>
  ⟨k.at (by have := r.n1; simp; omega) r.c, r.mm.kp k (by have := r.n2; simp; omega), (r.rd.kp k (by simp)).1, (r.rl.kp k (by simp)).1, (r.rh.kp k (by simp)).1, tab_kp r.tb k (by have := r.gg; simp at this ⊢; exact this.1), r.lk⟩
theorem Rdy.low {sp dp m : Nat} {cg : Int} {lst : Mp} {d : Option Addr} {cd : Nat} {l : Option Addr} {cl : Nat} {h : Option Addr} {ch : Nat} {v : Option Addr} {cv : Nat} {zv : Int} {w : World} (r : Rdy sp dp m cg lst d cd l cl h ch v cv zv w) : sp < w.heap.size ∧ dp < w.heap.size ∧ m < w.heap.size := ⟨lt_of_heap r.s, lt_of_heap r.c, r.mm.lt⟩
theorem oct7 : Oct [47, 0, 32, 1, 7, 0, 0, 0] := by intro n hn; simp at hn; omega
theorem octr : Oct [64, 0, 32, 1, 0, 0, 0, 0] := by intro n hn; simp at hn; omega
theorem octw : Oct [96, 0, 32, 1, 0, 0, 0, 0] := by intro n hn; simp at hn; omega
theorem octv : Oct [79, 0, 32, 1, 7, 0, 0, 0] := by intro n hn; simp at hn; omega
theorem follow_w {sp dp m : Nat} {cg : Int} {lst : Mp} {d : Option Addr} {cd : Nat} {l : Option Addr} {cl : Nat} {h : Option Addr} {ch : Nat} {v : Option Addr} {cv : Nat} {zv : Int} {w : World} (r : Rdy sp dp m cg lst d cd l cl h ch v cv zv w) (hc0 : 0 ≤ cg) (hc1 : cg < 4611686018427387904) :
    Calls Tryz.prog 13 #[.pointer (some ⟨sp, 0, none⟩), arr8 47 0 32 1 7 0 0 0] w (WroPost [sp, dp, m] sp dp m 5 10 cg lst 8192 1 ⟨#[]⟩ 5 3 d 1 cd l 1 cl h 1 ch 3 0 1 [7] (frC (1408 + 5) 8 96 0 32 1 0 0 0 0 false) w) :=
  sfollow_1 sp dp 5 10 m cg lst 8192 1 ⟨#[]⟩ 5 3 d 1 cd l 1 cl h 1 ch 3 0 1 [7] (frC (1408 + 5) 8 96 0 32 1 0 0 0 0 false) 47 0 32 1 7 0 0 0 w r.s
    (show Hid (∀ _, _ → _) from fun W _ => adW W)
    (show Hid (∀ _ _ _, _ → _ → _) from fun W b cb hb hr =>
      swrite_at sp 5 10 dp m cg lst 8192 1 ⟨#[]⟩ 5 3 d 1 cd l 1 cl h 1 ch 3 0 b 1 cb [7] 1 0 false false false 0 0 0 0 0 (frC (1408 + 5) 8 96 0 32 1 0 0 0 0 false) W ((r.next hb).low.1)
        (show Hid (∀ _, _ → _) from fun W' hb' => once_at sp 5 10 dp m cg lst 8192 1 ⟨#[]⟩ 5 3 d 1 cd l 1 cl h 1 ch 3 0 v 1 cv [5] [1] [9] b 1 cb [7] 1 0 false false false 0 0 0 0 0 W' ((r.next hb).next hb').s ((r.next hb).next hb').env (fun W'' k => hr W'' ((Kp.of hb').trans k)) (by decide) (by decide) (by decide) (by decide) (by decide) (by decide +kernel) (by decide) (by decide) hc0 hc1 r.n1 r.n2 r.n3)
        (show Hid (∀ _, _ → _) from fun W' hs => say_at sp 5 10 dp none 1 8192 1 false 0 false none 0 0 false false false 0 0 0 0 0 96 0 32 1 0 0 0 0 W' hs (by decide) (by decide) octw (show Hid (∀ _, _ → _) from fun W'' _ => ansW W''))
        (r.next hb).low.2.1 (r.next hb).low.2.2)
theorem follow_r {sp dp m : Nat} {cg : Int} {lst : Mp} {d : Option Addr} {cd : Nat} {l : Option Addr} {cl : Nat} {h : Option Addr} {ch : Nat} {v : Option Addr} {cv : Nat} {zv : Int} {w : World} (r : Rdy sp dp m cg lst d cd l cl h ch v cv zv w) (hz : zv = 7) :
    Calls Tryz.prog 13 #[.pointer (some ⟨sp, 0, none⟩), arr8 64 0 32 1 0 0 0 0] w (TolPost sp dp 5 10 (frC (1408 + 5) 8 79 0 32 1 7 0 0 0 false) w) := by
  subst hz
  exact sfollow_3 sp dp 5 10 8192 1 (frC (1408 + 5) 8 79 0 32 1 7 0 0 0 false) 64 0 32 1 0 0 0 0 w r.s
    (show Hid (∀ _, _ → _) from fun W _ => adR W)
    (show Hid (∀ _ _ _, _ → _) from fun W b cb hb =>
      sread_at sp 5 10 dp 8192 1 1 [7] 3 0 b 0 cb false false false 0 0 0 0 0 (frC (1408 + 5) 8 79 0 32 1 7 0 0 0 false) W ((r.next hb).low.1) (by decide) (by decide)
        (show Hid (∀ _, _ → _) from fun W' hb' => beginRead_at sp 5 10 dp m cg lst 8192 1 ⟨#[]⟩ 5 3 d 1 cd l 1 cl h 1 ch 3 0 v 1 cv [5] [1] [9] [7] W' ((r.next hb).next hb').s ((r.next hb).next hb').env (fun W'' k => (((r.next hb).next hb').rv.kp k (by simp)).1) (by decide) (by decide))
        (show Hid (∀ _ _ _, _ → _ → _) from fun W' a' c' hs hr => say_at sp 5 10 dp none 3 8192 1 true 0 true a' 1 c' false false false 0 0 0 0 0 79 0 32 1 7 0 0 0 W' hs (by decide) (by decide) octv (show Hid (∀ _, _ → _) from fun W'' hb'' => ansR10 a' c' W'' (hr.next hb''))))
theorem hear_w {sp dp m : Nat} {cg : Int} {lst : Mp} {d : Option Addr} {cd : Nat} {l : Option Addr} {cl : Nat} {h : Option Addr} {ch : Nat} {v : Option Addr} {cv : Nat} {zv : Int} {w : World} (r : Rdy sp dp m cg lst d cd l cl h ch v cv zv w) (hc0 : 0 ≤ cg) (hc1 : cg < 4611686018427387904) :
    Calls Tryz.prog 6 #[.pointer (some ⟨sp, 0, none⟩), frV 1541 8 47 0 32 1 7 0 0 0 false, .int .i64 0] w fun e w' => ∃ g a' c' lst', e = .returned (.slice (some ⟨g, 0, none⟩) 1 1) ∧ w.heap.size ≤ g ∧ w'.heap[g]? = some (.cells (frC 1413 8 96 0 32 1 0 0 0 0 false) 25 (0, 0)) ∧ Kp [sp, dp, m] w w' ∧ Rdy sp dp m (cg + 1) lst' d cd l cl h ch a' c' 7 w' := by
  have HH := shear_at sp dp 5 10 (fun W g w' => w'.heap[g]? = some (.cells (frC 1413 8 96 0 32 1 0 0 0 0 false) 25 (0, 0)) ∧ CommitPost [sp, dp, m] sp dp m 5 10 cg lst 8192 1 ⟨#[]⟩ 5 3 d 1 cd l 1 cl h 1 ch 3 0 1 [7] W w') 47 0 32 1 7 0 0 0 0 w r.s (by decide) (by decide) oct7 (show Hid (∀ _, _ → _) from fun W hb => by
    refine (follow_w (r.next hb) hc0 hc1).mono ?_
    rintro e w' ⟨g, rfl, g1, g2, g3⟩
    have g3' := g3
    obtain ⟨a', c', k1, k2, k3, k4, k5⟩ := g3
    have := r.low
    exact ⟨g, rfl, g1, k2, k1.size, fun j h1 h2 => k1.block j h2 (by simp; omega), g2, g3'⟩)
  refine HH.mono ?_
  rintro e w' ⟨W, w1, g, rfl, hb, hl, hg, ⟨hf, a', c', k1, k2, k3, k4, k5⟩, hk⟩
  obtain ⟨l1, l2, l3⟩ := r.low
  obtain ⟨g0, e0, hg0, _⟩ := k5.own (by decide)
  have K : Kp [sp, dp, m] w w' := ((Kp.of hb).trans k1).fresh hk (by simp; omega)
  have hs := hb.size
  refine ⟨g, a', c', putP lst 8192 1 (.agg (itC 8192 1 ⟨#[]⟩ 5 3 d 1 cd l 1 cl h 1 ch 3 0 a' 1 c')), rfl, by omega, hk.at (by simp; omega) hf, K, ?_⟩
  exact {
    s := hk.at (by simp; omega) k2
    c := hk.at (by simp; omega) k3
    mm := k4.kp hk (by simp; omega)
    rd := r.rd.kp K (by simp)
    rl := r.rl.kp K (by simp)
    rh := r.rh.kp K (by simp)
    rv := ⟨⟨k5.row.kps hk (fun _ b off e hm => by rw [e0] at e; cases e; simp at hm; omega), k5.le, k5.max⟩, fun _ b off e => by rw [e0] at e; cases e; simp; omega⟩
    tb := tab_kp r.tb K r.gg
    lk := look_same _ _ _ _
    n1 := r.n1
    n2 := r.n2
    n3 := r.n3
    gg := r.gg }
theorem hear_r {sp dp m : Nat} {cg : Int} {lst : Mp} {d : Option Addr} {cd : Nat} {l : Option Addr} {cl : Nat} {h : Option Addr} {ch : Nat} {v : Option Addr} {cv : Nat} {zv : Int} {w : World} (r : Rdy sp dp m cg lst d cd l cl h ch v cv zv w) (hz : zv = 7) :
    Calls Tryz.prog 6 #[.pointer (some ⟨sp, 0, none⟩), frV 1541 8 64 0 32 1 0 0 0 0 false, .int .i64 0] w fun e w' => ∃ g, e = .returned (.slice (some ⟨g, 0, none⟩) 1 1) ∧ w.heap.size ≤ g ∧ w'.heap[g]? = some (.cells (frC 1413 8 79 0 32 1 7 0 0 0 false) 25 (0, 0)) ∧ Kp [sp] w w' := by
  have HH := shear_at sp dp 5 10 (fun W g w' => w'.heap[g]? = some (.cells (frC 1413 8 79 0 32 1 7 0 0 0 false) 25 (0, 0)) ∧ Kp [sp] W w') 64 0 32 1 0 0 0 0 0 w r.s (by decide) (by decide) octr (show Hid (∀ _, _ → _) from fun W hb => by
    refine (follow_r (r.next hb) hz).mono ?_
    rintro e w' ⟨g, rfl, g1, g2, k1, k2⟩
    have := r.low
    exact ⟨g, rfl, g1, k2, k1.size, fun j h1 h2 => k1.block j h2 (by simp; omega), g2, k1⟩)
  refine HH.mono ?_
  rintro e w' ⟨W, w1, g, rfl, hb, hl, hg, ⟨hf, k1⟩, hk⟩
  obtain ⟨l1, l2, l3⟩ := r.low
  have K : Kp [sp] w w' := ((Kp.of hb).trans k1).fresh hk (by simp; omega)
  have hs := hb.size
  exact ⟨g, rfl, by omega, hk.at (by simp; omega) hf, K⟩
end Go.Proofs.YtimnpdegoehblaaGreatDoor
namespace Go.Proofs.YtimnpdegoehblaaGreatDoor
open Go.RowKit

theorem octA : Oct [47, 0, 32, 1, 7, 0, 0, 0] := by intro n hn; simp at hn; omega
theorem laskW (a : Option Addr) (W : World) (hr : Row W a 1 [7]) : Calls Tryz.prog 18 #[cmV 1 8192 1 true 0 true a 1 1 false false false 0 0 0 0 0] W fun e w' => e = .returned (frV 1541 8 47 0 32 1 7 0 0 0 false) ∧ Below W.heap.size W w' :=
  lask_at 1 8192 1 true 0 true a 1 1 false false false 0 0 0 0 0 47 0 32 1 7 0 0 0 W (show Hid (∀ _, _ → _) from fun W' hb => askW a W' (hr.next hb))
theorem laskR (W : World) : Calls Tryz.prog 18 #[cmV 3 8192 1 false 0 false none 0 0 false false false 0 0 0 0 0] W fun e w' => e = .returned (frV 1541 8 64 0 32 1 0 0 0 0 false) ∧ Below W.heap.size W w' :=
  lask_at 3 8192 1 false 0 false none 0 0 false false false 0 0 0 0 0 64 0 32 1 0 0 0 0 W (show Hid (∀ _, _ → _) from fun W' _ => askR10 W')
theorem lansW (W : World) : Calls Tryz.prog 19 #[cmV 1 8192 1 false 0 false none 0 0 false false false 0 0 0 0 0] W fun e w' => e = .returned (frV 1413 8 96 0 32 1 0 0 0 0 false) ∧ Below W.heap.size W w' :=
  lans_at 1 8192 1 false 0 false none 0 0 false false false 0 0 0 0 0 96 0 32 1 0 0 0 0 W (show Hid (∀ _, _ → _) from fun W' _ => ansW W')
theorem lansR (a : Option Addr) (W : World) (hr : Row W a 1 [7]) : Calls Tryz.prog 19 #[cmV 3 8192 1 true 0 true a 1 1 false false false 0 0 0 0 0] W fun e w' => e = .returned (frV 1413 8 79 0 32 1 7 0 0 0 false) ∧ Below W.heap.size W w' :=
  lans_at 3 8192 1 true 0 true a 1 1 false false false 0 0 0 0 0 79 0 32 1 7 0 0 0 W (show Hid (∀ _, _ → _) from fun W' hb => ansR10 a 1 W' (hr.next hb))
theorem pcell10 (W : World) (B : Nat) (h : W.heap[B]? = some (.cells #[.int .u16 8192, .int .u8 1] 28 (0, 0))) : W.cell? ⟨B, 0, none⟩ = some (.int .u16 8192) ∧ W.cell? ⟨B, 1, none⟩ = some (.int .u8 1) := by
  constructor
  · rw [cell_of_row _ _ 0 _ _ _ h]; rfl
  · rw [cell_of_row _ _ 1 _ _ _ h]; rfl
theorem exNew2 (w : World) (hT : Ty.Tab64 w) : Calls Tryz.prog 15 #[.slice (some ⟨w.heap.size + 1 + 1 + 1 + 1 + 1, 0, none⟩) 5 5] (exW w) fun e w1 => ∃ dp m lst d cd l cl h ch v cv, e = .returned (.tuple #[.pointer (some ⟨dp, 0, none⟩), .int .i64 0]) ∧ Below w.heap.size w w1 ∧ dp < w1.heap.size ∧ m < w1.heap.size ∧ w.heap.size ≤ dp ∧ w.heap.size ≤ m ∧ Rdy w1.heap.size dp m 0 lst d cd l cl h ch v cv 5 (w1.alloc (.cells (svC 5 dp 10 none) 41)) := by
  have T0 : Ty.Tab64 (exW w) := hT.below (exW_below w) hT.old
  refine (exNew w T0).mono ?_
  rintro r w1 ⟨lst, rfl, hb, hd, hm, hB⟩
  obtain ⟨a1, c1, a2, c2, a3, c3, v, lv, cv, g0, k1, k2, k3, k4⟩ := hB.2 0 _ (show (exE w.heap.size)[0]? = some _ from rfl)
  dsimp only at g0 k1 k2 k3 k4
  have hf : firstL 5 [5] = [5] := by decide +kernel
  rw [hf] at k4
  have hlv : lv = 1 := k4.1.row.size.symm
  subst hlv
  have hlk : lookP lst 8192 1 = some (.agg (itC 8192 1 ⟨#[]⟩ 5 3 a1 1 c1 a2 1 c2 a3 1 c3 3 0 v 1 cv)) := by
    cases lst with
    | nil => simp at g0
    | cons x t =>
      simp only [List.getElem?_cons_zero, Option.some.injEq] at g0
      subst g0
      simp [lookP]
  have hs6 := exW_size w
  have lo := hm.lt
  have lod := lt_of_heap hd
  have old := hT.old
  have nx : Below w1.heap.size w1 (w1.alloc (.cells (svC 5 ((exW w).heap.size + 1) 10 none) 41)) := Below.al (Below.refl _ _) _
  have far : ∀ {a : Option Addr} {len cap : Nat} {zs : List Int}, Kept w1 ((exW w).heap.size + 2) a len cap zs → Far (w1.alloc (.cells (svC 5 ((exW w).heap.size + 1) 10 none) 41)) [w1.heap.size, (exW w).heap.size + 1, (exW w).heap.size] a len cap zs := fun k => ⟨k.1.next nx, fun hl b off e => by
    have h1 := k.2 hl b off e
    have h2 := k.1.row.old hl b off e
    simp
    omega⟩
  have T1 : Ty.Tab64 w1 := T0.below hb T0.old
  refine ⟨(exW w).heap.size + 1, (exW w).heap.size, lst, a1, c1, a2, c2, a3, c3, v, cv, rfl, Below.andThen (exW_below w) hb, lod, lo, by omega, by omega, ?_⟩
  exact {
    s := at11 _ _ _ rfl
    c := ext11 hd
    mm := hm.next nx
    rd := far k1
    rl := far k2
    rh := far k3
    rv := far k4
    tb := T1.below nx T1.old
    lk := hlk
    n1 := by omega
    n2 := by omega
    n3 := by omega
    gg := by simp only [List.mem_cons, List.not_mem_nil, or_false, not_or]; omega }

set_option linter.unusedSimpArgs false in
set_option maxHeartbeats 4000000 in
set_option maxRecDepth 100000 in
theorem works10 (w : World) (hT : Ty.Tab64 w) : Calls Tryz.prog 8 #[] w fun e w' => e = .returned (.bool true) ∧ Below w.heap.size w w' := by
  have ho7 : Hid (Oct [7]) := fun n hn => by simp at hn; omega
  have HT : Hid (Ty.Tab64 w) := hT
  have eqW : ∀ W, (binOp .eql 25 (frV 1413 8 96 0 32 1 0 0 0 0 false) (frV 1413 8 96 0 32 1 0 0 0 0 false)).run Tryz.prog W = .ok (.bool true) W := fun W => by kernel_rfl
  have eqR : ∀ W, (binOp .eql 25 (frV 1413 8 79 0 32 1 7 0 0 0 false) (frV 1413 8 79 0 32 1 7 0 0 0 false)).run Tryz.prog W = .ok (.bool true) W := fun W => by kernel_rfl
  clear hT
  go_enter Tryz.func8, Tryz.ntmps8
  go_wp2_with fail
  refine (example_any w).mono ?_
  rintro r w0 ⟨rfl, rfl⟩
  go_wp2_with fail
  refine (exNew2 w HT.out).mono ?_
  rintro r w1 ⟨dp, m, lst, d, cd, l, cl, h, ch, v, cv, rfl, hb, x1, x2, x3, x4, hr⟩
  have B1 : Hid (Below w.heap.size w w1) := hb
  have R1 : Hid (Rdy w1.heap.size dp m 0 lst d cd l cl h ch v cv 5 (w1.alloc (.cells (svC 5 dp 10 none) 41))) := hr
  have X : Hid (dp < w1.heap.size ∧ m < w1.heap.size ∧ w.heap.size ≤ dp ∧ w.heap.size ≤ m) := ⟨x1, x2, x3, x4⟩
  clear hb hr x1 x2 x3 x4 HT
  go_wp2_with fail
  refine (snew_at 5 10 dp w1 (by decide) (by decide) (by decide) (by decide)).mono ?_
  rintro r w9 ⟨rfl, rfl⟩
  go_wp2_with fail
  obtain ⟨W0, HW0⟩ : ∃ W0, Hid (((w1.alloc (.cells (svC 5 dp 10 none) 41)).alloc (.cells #[.int .u16 8192, .int .u8 1] 28)).alloc (.cells #[.int .u8 7] 5) = W0) := ⟨_, rfl⟩
  have B0 : Hid (Below (w1.alloc (.cells (svC 5 dp 10 none) 41)).heap.size (w1.alloc (.cells (svC 5 dp 10 none) 41)) W0) := by show Below _ _ _; rw [← HW0.out]; exact Below.al (Below.al (Below.refl _ _) _) _
  have RR0 : Hid (Rdy w1.heap.size dp m 0 lst d cd l cl h ch v cv 5 W0) := R1.out.next B0.out
  have L0 : Hid (W0.heap[w1.heap.size + 1]? = some (.cells #[.int .u16 8192, .int .u8 1] 28 (0, 0))) := by show _ = _; rw [← HW0.out]; exact ext11 (at11 _ _ _ (by simp))
  have R0 : Hid (Row W0 (some ⟨w1.heap.size + 1 + 1, 0, none⟩) 1 [7]) := by
    show Row _ _ _ _
    rw [← HW0.out]
    have := row_lit ((w1.alloc (.cells (svC 5 dp 10 none) 41)).alloc (.cells #[.int .u16 8192, .int .u8 1] 28)) #[.int .u8 7] 5 [7] 1 rfl ho7.out rfl
    simpa using this
  have BW0 : Hid (Below w.heap.size w W0) := Below.andThen (Below.al B1.out _) B0.out
  have S0 : Hid (W0.heap.size = w1.heap.size + 3) := by show _ = _; rw [← HW0.out]; simp
  rw [HW0.out]
  clear HW0 B0
  refine (laskW _ W0 R0.out).mono ?_
  rintro r w2 ⟨rfl, hb⟩
  have B02 : Hid (Below W0.heap.size W0 w2) := hb
  clear hb
  go_wp2_with fail
  refine (hear_w (RR0.out.next B02.out) (by decide) (by decide)).mono ?_
  rintro r w3 ⟨g, a', c', lst', rfl, hg, hf, hk, hr⟩
  have LG : Hid (w1.heap.size + 3 ≤ g) := by show _ ≤ _; have := B02.out.size; have := S0.out; omega
  have F3 : Hid (w3.heap[g]? = some (.cells (frC 1413 8 96 0 32 1 0 0 0 0 false) 25 (0, 0))) := hf
  have K23 : Hid (Kp [w1.heap.size, dp, m] w2 w3) := hk
  have R3 : Hid (Rdy w1.heap.size dp m (0 + 1) lst' d cd l cl h ch a' c' 7 w3) := hr
  have L3 : Hid (w3.heap[w1.heap.size + 1]? = some (.cells #[.int .u16 8192, .int .u8 1] 28 (0, 0))) := K23.out.at (by have := X.out; simp; omega) (blk11 B02.out L0.out)
  have BW3 : Hid (Below w.heap.size w w3) := Kp.below (Below.andThen BW0.out B02.out) K23.out (by have := B02.out.size; have := BW0.out.size; omega) (by have := X.out; have := B1.out.size; simp; omega)
  obtain ⟨q0, q1⟩ := pcell10 _ _ L3.out
  clear hg hf hk hr R1 RR0 L0 R0
  go_wp2_with fail
  clear q0 q1
  refine (laskR w3).mono ?_
  rintro r w4 ⟨rfl, hb⟩
  have B34 : Hid (Below w3.heap.size w3 w4) := hb
  clear hb
  go_wp2_with fail
  refine (hear_r (R3.out.next B34.out) rfl).mono ?_
  rintro r w5 ⟨g2, rfl, hg, hf, hk⟩
  have K45 : Hid (Kp [w1.heap.size] w4 w5) := hk
  have G5 : Hid (w5.heap[g2]? = some (.cells (frC 1413 8 79 0 32 1 7 0 0 0 false) 25 (0, 0))) := hf
  have F5 : Hid (w5.heap[g]? = some (.cells (frC 1413 8 96 0 32 1 0 0 0 0 false) 25 (0, 0))) := K45.out.at (by have := LG.out; simp; omega) (blk11 B34.out F3.out)
  have L5 : Hid (w5.heap[w1.heap.size + 1]? = some (.cells #[.int .u16 8192, .int .u8 1] 28 (0, 0))) := K45.out.at (by simp) (blk11 B34.out L3.out)
  have B5 : Hid (Below w.heap.size w w5) := Kp.below (Below.andThen BW3.out B34.out) K45.out (by have := B34.out.size; have := BW3.out.size; omega) (by have := B1.out.size; simp; omega)
  clear hg hf hk R3 L3 F3
  go_wp2_with fail
  refine wp_region_held_drew (S := fun x => Below w5.heap.size w5 x) (by kernel_rfl) (Below.drew (Below.refl _ _)) (fun hHeld => ?_)
  refine tk 0 (.slice (some ⟨g, 0, none⟩) 1 1) rfl (.inl ⟨by rfl, ?_⟩) ?_
  · intro w9 hSw
    try dsimp only at hSw
    go_simp
    all_goals try decide
    all_goals try assumption
    all_goals try omega
  try simp only [Act.put, gA, gS, gZ, sA, sZ, sS]
  refine tk 1 (.int .i64 1) rfl (.inl ⟨by rfl, ?_⟩) ?_
  · intro w9 hSw
    try dsimp only at hSw
    go_simp
    all_goals try decide
    all_goals try assumption
    all_goals try omega
  try simp only [Act.put, gA, gS, gZ, sA, sZ, sS]
  refine tk 2 (.bool true) rfl (.inl ⟨by rfl, ?_⟩) ?_
  · intro w9 hSw
    try dsimp only at hSw
    go_simp
    all_goals try decide
    all_goals try assumption
    all_goals try omega
  try simp only [Act.put, gA, gS, gZ, sA, sZ, sS]
  refine tk 3 (.bool true) rfl (.inl ⟨by rfl, ?_⟩) ?_
  · intro w9 hSw
    try dsimp only at hSw
    go_simp
    all_goals try decide
    all_goals try assumption
    all_goals try omega
  try simp only [Act.put, gA, gS, gZ, sA, sZ, sS]
  refine tk 4 (.slice (some ⟨g2, 0, none⟩) 1 1) rfl (.inl ⟨by rfl, ?_⟩) ?_
  · intro w9 hSw
    try dsimp only at hSw
    go_simp
    all_goals try decide
    all_goals try assumption
    all_goals try omega
  try simp only [Act.put, gA, gS, gZ, sA, sZ, sS]
  refine tk 5 (.int .i64 1) rfl (.inl ⟨by rfl, ?_⟩) ?_
  · intro w9 hSw
    try dsimp only at hSw
    go_simp
    all_goals try decide
    all_goals try assumption
    all_goals try omega
  try simp only [Act.put, gA, gS, gZ, sA, sZ, sS]
  refine tk 6 (.bool true) rfl (.inl ⟨by rfl, ?_⟩) ?_
  · intro w9 hSw
    try dsimp only at hSw
    go_simp
    all_goals try decide
    all_goals try assumption
    all_goals try omega
  try simp only [Act.put, gA, gS, gZ, sA, sZ, sS]
  refine tk 7 (.bool true) rfl (.inl ⟨by rfl, ?_⟩) ?_
  · intro w9 hSw
    try dsimp only at hSw
    go_simp
    all_goals try decide
    all_goals try assumption
    all_goals try omega
  try simp only [Act.put, gA, gS, gZ, sA, sZ, sS]
  refine tk 8 (.bool true) rfl (.inl ⟨by rfl, ?_⟩) ?_
  · intro w9 hSw
    try dsimp only at hSw
    go_simp
    all_goals try decide
    all_goals try assumption
    all_goals try omega
  try simp only [Act.put, gA, gS, gZ, sA, sZ, sS]
  refine tk 9 (.slice (some ⟨g, 0, none⟩) 1 1) rfl (.inl ⟨by rfl, ?_⟩) ?_
  · intro w9 hSw
    try dsimp only at hSw
    go_simp
    all_goals try decide
    all_goals try assumption
    all_goals try omega
  try simp only [Act.put, gA, gS, gZ, sA, sZ, sS]
  refine tk 10 (.pointer (some ⟨g, 0, none⟩)) rfl (.inl ⟨by rfl, ?_⟩) ?_
  · intro w9 hSw
    try dsimp only at hSw
    go_simp
    all_goals try decide
    all_goals try assumption
    all_goals try omega
  try simp only [Act.put, gA, gS, gZ, sA, sZ, sS]
  refine tk 11 (frV 1413 8 96 0 32 1 0 0 0 0 false) rfl (.inl ⟨by rfl, ?_⟩) ?_
  · intro w9 hSw
    try dsimp only at hSw
    exact ex_load11 25 (.tmp 50) rfl _ _ rfl (load_part 25 11 sizeF aggF _ g 0 [.int .u16 1413, .int .i64 8, .int .u8 96, .int .u8 0, .int .u8 32, .int .u8 1, .int .u8 0, .int .u8 0, .int .u8 0, .int .u8 0, .bool false] _ (blk11 hSw F5.out) (by simp))
  try simp only [Act.put, gA, gS, gZ, sA, sZ, sS]
  refine tk 12 (plV 8192 1) rfl (.inl ⟨by rfl, ?_⟩) ?_
  · intro w9 hSw
    try dsimp only at hSw
    exact ex_load11 28 (.tmp 5) rfl _ _ rfl (load_part 28 2 sizeP aggP _ (w1.heap.size + 1) 0 [.int .u16 8192, .int .u8 1] _ (blk11 hSw L5.out) (by simp))
  try simp only [Act.put, gA, gS, gZ, sA, sZ, sS]
  refine tk 13 (cmV 1 8192 1 false 0 false none 0 0 false false false 0 0 0 0 0) rfl (.inl ⟨by rfl, ?_⟩) ?_
  · intro w9 hSw
    try dsimp only at hSw
    go_simp
    all_goals try decide
    all_goals try assumption
    all_goals try omega
  try simp only [Act.put, gA, gS, gZ, sA, sZ, sS]
  refine wpAnyH_ready (rs := [14]) (by kernel_rfl) (by simp) ?_
  refine AllReadyH.cons rfl (fun K' hK => ?_) AllReadyH.nil
  rw [if_pos (by rfl)]
  simp only [gA, gS, gZ]
  go_wp2_with fail
  refine (lansW _).mono ?_
  rintro r w6 ⟨rfl, hbx⟩
  try go_wp2_with fail
  refine hK.out _ _ (Below.andThen hHeld hbx) (fun hHeld => ?_)
  clear hK K'
  try simp only [Act.put, gA, gS, gZ, sA, sZ, sS]
  refine tk 15 (.bool true) rfl (.inl ⟨by rfl, ?_⟩) ?_
  · intro w9 hSw
    try dsimp only at hSw
    go_simp
    all_goals try decide
    all_goals try assumption
    all_goals try omega
  try simp only [Act.put, gA, gS, gZ, sA, sZ, sS]
  refine tk 16 (.bool true) rfl (.inl ⟨by rfl, ?_⟩) ?_
  · intro w9 hSw
    try dsimp only at hSw
    go_simp
    all_goals try decide
    all_goals try assumption
    all_goals try omega
  try simp only [Act.put, gA, gS, gZ, sA, sZ, sS]
  refine tk 17 (.bool true) rfl (.inl ⟨by rfl, ?_⟩) ?_
  · intro w9 hSw
    try dsimp only at hSw
    go_simp
    all_goals try decide
    all_goals try assumption
    all_goals try omega
  try simp only [Act.put, gA, gS, gZ, sA, sZ, sS]
  refine tk 18 (.slice (some ⟨g2, 0, none⟩) 1 1) rfl (.inl ⟨by rfl, ?_⟩) ?_
  · intro w9 hSw
    try dsimp only at hSw
    go_simp
    all_goals try decide
    all_goals try assumption
    all_goals try omega
  try simp only [Act.put, gA, gS, gZ, sA, sZ, sS]
  refine tk 19 (.pointer (some ⟨g2, 0, none⟩)) rfl (.inl ⟨by rfl, ?_⟩) ?_
  · intro w9 hSw
    try dsimp only at hSw
    go_simp
    all_goals try decide
    all_goals try assumption
    all_goals try omega
  try simp only [Act.put, gA, gS, gZ, sA, sZ, sS]
  refine tk 20 (frV 1413 8 79 0 32 1 7 0 0 0 false) rfl (.inl ⟨by rfl, ?_⟩) ?_
  · intro w9 hSw
    try dsimp only at hSw
    exact ex_load11 25 (.tmp 59) rfl _ _ rfl (load_part 25 11 sizeF aggF _ g2 0 [.int .u16 1413, .int .i64 8, .int .u8 79, .int .u8 0, .int .u8 32, .int .u8 1, .int .u8 7, .int .u8 0, .int .u8 0, .int .u8 0, .bool false] _ (blk11 hSw G5.out) (by simp))
  try simp only [Act.put, gA, gS, gZ, sA, sZ, sS]
  refine tk 21 (plV 8192 1) rfl (.inl ⟨by rfl, ?_⟩) ?_
  · intro w9 hSw
    try dsimp only at hSw
    exact ex_load11 28 (.tmp 5) rfl _ _ rfl (load_part 28 2 sizeP aggP _ (w1.heap.size + 1) 0 [.int .u16 8192, .int .u8 1] _ (blk11 hSw L5.out) (by simp))
  try simp only [Act.put, gA, gS, gZ, sA, sZ, sS]
  refine wpAnyH_ready (rs := [22]) (by kernel_rfl) (by simp) ?_
  refine AllReadyH.cons rfl (fun K' hK => ?_) AllReadyH.nil
  rw [if_pos (by rfl)]
  simp only [gA, gS, gZ]
  go_wp2_with fail
  refine hK.out _ _ (Below.al hHeld _) (fun hHeld => ?_)
  clear hK K'
  try simp only [Act.put, gA, gS, gZ, sA, sZ, sS]
  refine tk 23 (cmV 3 8192 1 true 0 true (some ⟨w6.heap.size, 0, none⟩) 1 1 false false false 0 0 0 0 0) rfl (.inl ⟨by rfl, ?_⟩) ?_
  · intro w9 hSw
    try dsimp only at hSw
    go_simp
    all_goals try decide
    all_goals try assumption
    all_goals try omega
  try simp only [Act.put, gA, gS, gZ, sA, sZ, sS]
  refine wpAnyH_ready (rs := [24]) (by kernel_rfl) (by simp) ?_
  refine AllReadyH.cons rfl (fun K' hK => ?_) AllReadyH.nil
  rw [if_pos (by rfl)]
  simp only [gA, gS, gZ]
  go_wp2_with fail
  refine (lansR (some ⟨w6.heap.size, 0, none⟩) _ (row_lit w6 #[.int .u8 7] 5 [7] 1 rfl ho7.out rfl)).mono ?_
  rintro r w7 ⟨rfl, hbx⟩
  try go_wp2_with fail
  refine hK.out _ _ (Below.andThen hHeld hbx) (fun hHeld => ?_)
  clear hK K'
  try simp only [Act.put, gA, gS, gZ, sA, sZ, sS]
  refine tk 25 (.bool true) rfl (.inl ⟨by rfl, ?_⟩) ?_
  · intro w9 hSw
    try dsimp only at hSw
    go_simp
    all_goals try decide
    all_goals try assumption
    all_goals try omega
  try simp only [Act.put, gA, gS, gZ, sA, sZ, sS]
  refine tk 26 (.bool true) rfl (.inl ⟨by rfl, ?_⟩) ?_
  · intro w9 hSw
    try dsimp only at hSw
    go_simp
    all_goals try decide
    all_goals try assumption
    all_goals try omega
  try simp only [Act.put, gA, gS, gZ, sA, sZ, sS]
  refine tk 27 (.bool true) rfl (.inl ⟨by rfl, ?_⟩) ?_
  · intro w9 hSw
    try dsimp only at hSw
    go_simp
    all_goals try decide
    all_goals try assumption
    all_goals try omega
  try simp only [Act.put, gA, gS, gZ, sA, sZ, sS]
  refine wpAnyH_done (by kernel_rfl) ?_ _
  go_wp2_with fail
  go_ret
  exact ⟨rfl, Below.andThen B5.out hHeld⟩
#print axioms works10
end Go.Proofs.YtimnpdegoehblaaGreatDoor
namespace Go.Proofs.YtimnpdegoehblaaGreatDoor
open Go.RowKit

set_option linter.unusedSimpArgs false in
set_option maxHeartbeats 4000000 in
set_option maxRecDepth 100000 in
theorem serverNone_any (id n d0 d1 d2 d3 d4 d5 d6 d7 : Int) (r : Bool) (now : Int) (w : World) (hT : Ty.Tab64 w) : Calls Tryz.prog 3 #[frV id n d0 d1 d2 d3 d4 d5 d6 d7 r, .int .i64 now] w fun e w' => e = .returned (.bool true) ∧ Below w.heap.size w w' := by
  have HW : Hid (∀ W, Below w.heap.size w W → Calls Tryz.prog 8 #[] W fun e w' => e = .returned (.bool true) ∧ Below W.heap.size W w') := fun W hb => works10 W (hT.below hb hT.old)
  have eqP : ∀ W, (binOp .eql 28 (plV 0 0) (plV 0 0)).run Tryz.prog W = .ok (.bool true) W := fun W => by kernel_rfl
  clear hT
  go_enter Tryz.func3, Tryz.ntmps3
  go_wp2_with fail
  refine (reset_nil _).mono ?_
  rintro e w9 ⟨rfl, rfl⟩
  go_wp2_with fail
  refine (sbusy_nil _).mono ?_
  rintro e w1 ⟨rfl, hb⟩
  have B1 : Hid (Below w.heap.size w w1) := Below.andThen (by repeat (first | exact Below.refl _ _ | apply Below.drew | apply Below.al)) hb
  have X1 : Hid (w1.heap[w.heap.size]? = some (.cells (frC id n d0 d1 d2 d3 d4 d5 d6 d7 r) 25 (0, 0))) := blk11 hb (at11 _ _ _ rfl)
  have lx1 := lt_of_heap X1.out
  clear hb
  go_wp2_with (refine load9_g 25 _ rfl ⟨w.heap.size, 0, none⟩ _ rfl (loadF _ _ id n d0 d1 d2 d3 d4 d5 d6 d7 r _ (ext11 X1.out)) ?_)
  with_reducible refine (shear_nil id n d0 d1 d2 d3 d4 d5 d6 d7 r now _).mono ?_
  rintro e w2 ⟨rfl, hb⟩
  have B2 : Hid (Below w.heap.size w w2) := Below.andThen (Below.al B1.out _) hb
  have P2 : Hid (w2.heap[w1.heap.size]? = some (.cells #[.int .u16 0, .int .u8 0] 28 (0, 0))) := blk11 hb (at11 _ _ _ rfl)
  clear hb
  go_wp2_with fail
  with_reducible refine (stick_nil now _).mono ?_
  rintro e w3 ⟨rfl, hb⟩
  have B3 : Hid (Below w.heap.size w w3) := Below.andThen B2.out hb
  have P3 : Hid (w3.heap[w1.heap.size]? = some (.cells #[.int .u16 0, .int .u8 0] 28 (0, 0))) := blk11 hb P2.out
  have q0 : w3.cell? ⟨w1.heap.size, 0, none⟩ = some (.int .u16 0) := by rw [cell_of_row _ _ 0 _ _ _ P3.out]; rfl
  have q1 : w3.cell? ⟨w1.heap.size, 1, none⟩ = some (.int .u8 0) := by rw [cell_of_row _ _ 1 _ _ _ P3.out]; rfl
  clear hb
  go_wp2_with fail
  with_reducible refine (HW.out _ B3.out).mono ?_
  rintro e w4 ⟨rfl, hb⟩
  have B4 : Hid (Below w.heap.size w w4) := Below.andThen B3.out hb
  clear hb q0 q1
  go_wp2_with fail
  go_ret
  exact ⟨rfl, B4.out⟩
#print axioms serverNone_any
end Go.Proofs.YtimnpdegoehblaaGreatDoor
namespace Go.Proofs.YtimnpdegoehblaaGreatDoor
open Go.ChangeShapes Go.WideShapes Go.ChangeAt Go.RowKit

set_option maxRecDepth 100000 in
theorem cell_u8 {w : World} {r : Reach} {b : Nat} {v : Value} (h : Cell.okWide Tryz.prog w r b 5 v) : ∃ n, v = .int .u8 n ∧ 0 ≤ n ∧ n < 256 := by
  unfold Cell.okWide Cell.ok at h
  rw [Tryz.underlying5] at h
  cases v <;> simp at h
  rename_i k n
  obtain ⟨rfl, h⟩ := h
  simp [IntKind.has, IntKind.min, IntKind.max, IntKind.signed, IntKind.bits] at h
  exact ⟨n, rfl, by omega, by omega⟩
set_option maxRecDepth 100000 in
theorem cell_u16 {w : World} {r : Reach} {b : Nat} {v : Value} (h : Cell.okWide Tryz.prog w r b 22 v) : ∃ n, v = .int .u16 n ∧ 0 ≤ n := by
  unfold Cell.okWide Cell.ok at h
  rw [Tryz.underlying22] at h
  cases v <;> simp at h
  rename_i k n
  obtain ⟨rfl, h⟩ := h
  simp [IntKind.has, IntKind.min, IntKind.max, IntKind.signed, IntKind.bits] at h
  exact ⟨n, rfl, by omega⟩
set_option maxRecDepth 100000 in
theorem cell_int {w : World} {r : Reach} {b : Nat} {v : Value} (h : Cell.okWide Tryz.prog w r b 3 v) : ∃ n, v = .int .i64 n := by
  unfold Cell.okWide Cell.ok at h
  rw [Tryz.underlying3] at h
  cases v <;> simp at h
  rename_i k n
  obtain ⟨rfl, _⟩ := h
  exact ⟨n, rfl⟩
set_option maxRecDepth 100000 in
theorem cell_bool {w : World} {r : Reach} {b : Nat} {v : Value} (h : Cell.okWide Tryz.prog w r b 4 v) : ∃ q, v = .bool q := by
  unfold Cell.okWide Cell.ok at h
  rw [Tryz.underlying4] at h
  cases v <;> simp at h
  exact ⟨_, rfl⟩

set_option maxRecDepth 100000 in
theorem typesF : Tryz.prog.cellTypes Tryz.prog.depth 25 = some [22, 3, 5, 5, 5, 5, 5, 5, 5, 5, 4] := by kernel_rfl
set_option maxRecDepth 100000 in
theorem cellsF : Tryz.prog.cellsOf 25 = 11 := by kernel_rfl

set_option maxRecDepth 100000 in
/-- A frame that came in. -/
theorem open_frame {w : World} {r : Reach} {b : Nat} {v : Value} (h : Value.okWide Tryz.prog w r b 25 v) : ∃ i n d0 d1 d2 d3 d4 d5 d6 d7 q, v = frV i n d0 d1 d2 d3 d4 d5 d6 d7 q ∧ 0 ≤ i ∧ Oct [d0, d1, d2, d3, d4, d5, d6, d7] := by
  unfold Value.okWide at h
  rw [Tryz.underlying25] at h
  obtain ⟨cs, rfl, hs, ts, ht, _, hc⟩ := h
  rw [typesF] at ht
  cases ht
  rw [cellsF] at hs
  obtain ⟨l⟩ := cs
  match l, hs with
  | [c0, c1, c2, c3, c4, c5, c6, c7, c8, c9, c10], _ =>
    obtain ⟨u0, e0, k0⟩ := hc 0 c0 rfl
    obtain ⟨u1, e1, k1⟩ := hc 1 c1 rfl
    obtain ⟨u2, e2, k2⟩ := hc 2 c2 rfl
    obtain ⟨u3, e3, k3⟩ := hc 3 c3 rfl
    obtain ⟨u4, e4, k4⟩ := hc 4 c4 rfl
    obtain ⟨u5, e5, k5⟩ := hc 5 c5 rfl
    obtain ⟨u6, e6, k6⟩ := hc 6 c6 rfl
    obtain ⟨u7, e7, k7⟩ := hc 7 c7 rfl
    obtain ⟨u8, e8, k8⟩ := hc 8 c8 rfl
    obtain ⟨u9, e9, k9⟩ := hc 9 c9 rfl
    obtain ⟨u10, e10, k10⟩ := hc 10 c10 rfl
    cases e0; cases e1; cases e2; cases e3; cases e4; cases e5; cases e6; cases e7; cases e8; cases e9; cases e10
    obtain ⟨i, rfl, hi⟩ := cell_u16 k0
    obtain ⟨n, rfl⟩ := cell_int k1
    obtain ⟨d0, rfl, b0⟩ := cell_u8 k2
    obtain ⟨d1, rfl, b1⟩ := cell_u8 k3
    obtain ⟨d2, rfl, b2⟩ := cell_u8 k4
    obtain ⟨d3, rfl, b3⟩ := cell_u8 k5
    obtain ⟨d4, rfl, b4⟩ := cell_u8 k6
    obtain ⟨d5, rfl, b5⟩ := cell_u8 k7
    obtain ⟨d6, rfl, b6⟩ := cell_u8 k8
    obtain ⟨d7, rfl, b7⟩ := cell_u8 k9
    obtain ⟨q, rfl⟩ := cell_bool k10
    refine ⟨i, n, d0, d1, d2, d3, d4, d5, d6, d7, q, rfl, hi, fun x hx => ?_⟩
    simp only [List.mem_cons, List.not_mem_nil, or_false] at hx
    rcases hx with rfl | rfl | rfl | rfl | rfl | rfl | rfl | rfl <;> assumption
end Go.Proofs.YtimnpdegoehblaaGreatDoor
