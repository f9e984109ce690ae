/-
  Any Maps that came in, of any dictionary: check, Check.
  What New's dictionary holds; Size and Pack of any Maps that came in.
  What has been packed, bit by bit.
-/
import Derived.Test.YtcdmldnaagiicaaDoorIf
import Derived.Test.YtcdmldnaagiicaaDoorIc
import Derived.Laws.BitsAllLaws
namespace Go.Proofs.YtcdmldnaagiicaaDoor
open Go.RowKit

/-- A Map that came in. -/
structure Mz where
  i : Int
  s : Int
  b : Int
/-- Maps that came in, in memory. -/
def MzAt (W : World) (g off : Nat) (ms : List Mz) : Prop := ∀ (k : Nat) (x : Mz), ms[k]? = some x → W.cell? ⟨g, off + k * 3, none⟩ = some (.int .u16 x.i) ∧ W.cell? ⟨g, off + k * 3 + 1, none⟩ = some (.int .u8 x.s) ∧ W.cell? ⟨g, off + k * 3 + 2, none⟩ = some (.int .i64 x.b)
theorem MzAt.next {W W' : World} {g off : Nat} {ms : List Mz} (h : MzAt W g off ms) (hb : Below W.heap.size W W') : MzAt W' g off ms := fun k x hx => by
  obtain ⟨h1, h2, h3⟩ := h k x hx
  exact ⟨by rw [hb.cell (p := ⟨g, off + k * 3, none⟩) (block_lt_of_cell h1)]; exact h1, by rw [hb.cell (p := ⟨g, off + k * 3 + 1, none⟩) (block_lt_of_cell h2)]; exact h2, by rw [hb.cell (p := ⟨g, off + k * 3 + 2, none⟩) (block_lt_of_cell h3)]; exact h3⟩
theorem MzAt.kp {W W' : World} {g off : Nat} {ms : List Mz} {S : List Nat} (h : MzAt W g off ms) (hb : Kp S W W') (hg : g ∉ S) : MzAt W' g off ms := fun k x hx => by
  obtain ⟨h1, h2, h3⟩ := h k x hx
  have e := hb.block g (block_lt_of_cell h1) hg
  exact ⟨by rw [World.cell?_of_block (w := W) e]; exact h1, by rw [World.cell?_of_block (w := W) e]; exact h2, by rw [World.cell?_of_block (w := W) e]; exact h3⟩
/-- An item's type, and its rights. -/
def itT : Value → Int
  | .agg c => match c[3]? with
    | some (Value.int _ t) => t
    | _ => 0
  | _ => 0
def itR : Value → Int
  | .agg c => match c[4]? with
    | some (Value.int _ t) => t
    | _ => 0
  | _ => 0
/-- Every item of a dictionary is whole. -/
def ItOk (W : World) (lst : Mp) (val : Int → Int → List Int) : Prop := ∀ (i s : Int) (u : Value), lookP lst i s = some u → ∃ nm t rt d ld cd l ll cl h lh ch tg gr v lv cv zd zl zh, u = .agg (itC i s nm t rt d ld cd l ll cl h lh ch tg gr v lv cv) ∧ SlOk W d ld cd zd ∧ SlOk W l ll cl zl ∧ SlOk W h lh ch zh ∧ SlOk W v lv cv (val i s) ∧ ld ≤ 16777216 ∧ ll ≤ 16777216 ∧ lh ≤ 16777216 ∧ lv ≤ 16777216 ∧ (0 < Ty.Pl.sizeN t → (lv : Int) = Ty.Pl.sizeN t)
theorem ItOk.next {W W' : World} {lst : Mp} {val : Int → Int → List Int} (h : ItOk W lst val) (hb : Below W.heap.size W W') : ItOk W' lst val := fun i s u hu => by
  obtain ⟨nm, t, rt, d, ld, cd, l, ll, cl, h, lh, ch, tg, gr, v, lv, cv, zd, zl, zh, e, r1, r2, r3, r4, r5⟩ := h i s u hu
  exact ⟨nm, t, rt, d, ld, cd, l, ll, cl, h, lh, ch, tg, gr, v, lv, cv, zd, zl, zh, e, r1.next hb, r2.next hb, r3.next hb, r4.next hb, r5⟩
/-- A Map's code, of a dictionary. -/
def cfD (lst : Mp) (out : Bool) (x : Mz) : Int := if gapB x.i x.s x.b = true then (if out then 100925505 else 0) else match lookP lst x.i x.s with
  | none => missC lst x.i
  | some u => if (((bits .and .u8 (itR u) 4 != 0) && hasB (itT u) x.b) && !(bits .and .u8 (itR u) (rgt out) == 0)) = true then 0 else 100925505
set_option linter.unusedSimpArgs false in
set_option maxHeartbeats 4000000 in
set_option maxRecDepth 100000 in
theorem mcheck_it (out : Bool) (p m : Nat) (cg : Int) (lst : Mp) (i s b : Int) (nm : ByteArray) (t rt : Int) (d : Option Addr) (ld cd : Nat) (l : Option Addr) (ll cl : Nat) (h : Option Addr) (lh ch : Nat) (tg gr : Int) (v : Option Addr) (lv cv : Nat) (zd zl zh : List Int) (w : World) (hp : w.heap[p]? = some (.cells #[.map (some m), .int .i64 cg] 58 (0, 0))) (hm : IsM w m lst) (hl : lookP lst i s = some (.agg (itC i s nm t rt d ld cd l ll cl h lh ch tg gr v lv cv))) (rd : SlOk w d ld cd zd) (rl : SlOk w l ll cl zl) (rh : SlOk w h lh ch zh) (g1 : ld ≤ 16777216) (g2 : ll ≤ 16777216) (g3 : lh ≤ 16777216) (hi1 : 0 ≤ i) (hi2 : i < 65536) (hg : gapB i s b = false) :
    Calls Tryd.prog 21 #[mpV i s b, .pointer (some ⟨p, 0, none⟩), .bool out] w fun e w' => e = .returned (.int .u32 (if (((bits .and .u8 rt 4 != 0) && hasB t b) && !(bits .and .u8 rt (rgt out) == 0)) = true then 0 else 100925505)) ∧ Below w.heap.size w w' := by
  obtain ⟨f, hf⟩ : ∃ f, Hid (f = ((bits .and .u8 rt 4 != 0) && hasB t b)) := ⟨_, rfl⟩
  obtain ⟨r, hr⟩ : ∃ r, Hid (r = (bits .and .u8 rt (rgt out) == 0)) := ⟨_, rfl⟩
  rw [← hf.out, ← hr.out]
  have HG : Hid (∀ W, Calls Tryd.prog 35 #[mpV i s b] W fun e w' => e = .returned (.bool false) ∧ Below W.heap.size W w') := fun W => by have := isGap_any i s b W hi1 hi2; rw [hg] at this; exact this
  have HF : Hid (∀ W, Below w.heap.size w W → Calls Tryd.prog 36 #[.pointer (some ⟨p, 0, none⟩), plV i s] W fun e w' => (∃ a1 c1 a2 c2 a3 c3, e = .returned (.tuple #[.agg (enC i s nm t rt a1 ld c1 a2 ll c2 a3 lh c3 tg gr), .int .u32 0])) ∧ Below W.heap.size W w') := fun W hb => findE_at p m cg lst i s nm t rt d ld cd l ll cl h lh ch tg gr v lv cv zd zl zh W (blk11 hb hp) (hm.next hb) hl (rd.next hb) (rl.next hb) (rh.next hb) g1 g2 g3
  have HT : Hid (∀ a1 c1 a2 c2 a3 c3 W, Calls Tryd.prog 37 #[mpV i s b, .agg (enC i s nm t rt a1 ld c1 a2 ll c2 a3 lh c3 tg gr)] W fun e w' => e = .returned (.bool f) ∧ Below W.heap.size W w') := fun a1 c1 a2 c2 a3 c3 W => by rw [hf.out]; exact fits_any i s b i s nm t rt a1 ld c1 a2 ll c2 a3 lh c3 tg gr W
  have HR : Hid ((bits .and .u8 rt (rgt out) == 0) = r) := hr.out.symm
  clear hp hm hl rd rl rh g1 g2 g3 hg hf hr
  go_enter Tryd.func21, Tryd.ntmps21
  go_wp2_with fail
  refine (HG.out _).mono ?_
  rintro e w1 ⟨rfl, hb1⟩
  have B1 : Hid (Below w.heap.size w w1) := Below.andThen (by repeat (first | exact Below.refl _ _ | apply Below.drew | apply Below.al)) hb1
  have X1 : Hid (w1.heap[w.heap.size]? = some (.cells #[.int .u16 i, .int .u8 s, .int .i64 b] 48 (0, 0))) := blk11 hb1 (at11 _ _ _ rfl)
  have c0 : w1.cell? ⟨w.heap.size, 0, none⟩ = some (.int .u16 i) := by rw [cell_of_row _ _ 0 _ _ _ X1.out]; rfl
  have c1 : w1.cell? ⟨w.heap.size, 1, none⟩ = some (.int .u8 s) := by rw [cell_of_row _ _ 1 _ _ _ X1.out]; rfl
  clear hb1
  go_wp2_with fail
  refine (HF.out _ B1.out).mono ?_
  rintro e w2 ⟨⟨a1, k1, a2, k2, a3, k3, rfl⟩, hb2⟩
  have B2 : Hid (Below w.heap.size w w2) := Below.andThen B1.out hb2
  have X2 : Hid (w2.heap[w.heap.size]? = some (.cells #[.int .u16 i, .int .u8 s, .int .i64 b] 48 (0, 0))) := blk11 hb2 X1.out
  have lw := lt_of_heap X2.out
  have d0 : w2.cell? ⟨w.heap.size, 0, none⟩ = some (.int .u16 i) := by rw [cell_of_row _ _ 0 _ _ _ X2.out]; rfl
  have d1 : w2.cell? ⟨w.heap.size, 1, none⟩ = some (.int .u8 s) := by rw [cell_of_row _ _ 1 _ _ _ X2.out]; rfl
  have d2 : w2.cell? ⟨w.heap.size, 2, none⟩ = some (.int .i64 b) := by rw [cell_of_row _ _ 2 _ _ _ X2.out]; rfl
  clear hb2 c0 c1
  cases f with
  | false =>
    cases out with
    | false =>
      clear HR
      go_wp2_with (refine wpList_load_by rfl 53 _ rfl ⟨w2.heap.size, 0, none⟩ _ rfl (load_part 53 10 sizeE aggE _ w2.heap.size 0 (enC i s nm t rt a1 ld k1 a2 ll k2 a3 lh k3 tg gr).toList _ (at11 _ _ _ rfl) (by simp)) ?_)
      refine (HT.out _ _ _ _ _ _ _).mono ?_
      rintro e w3 ⟨rfl, hb3⟩
      have B3 : Hid (Below w.heap.size w w3) := Below.andThen (Below.al B2.out _) hb3
      have X3 : Hid (w3.heap[w2.heap.size]? = some (.cells (enC i s nm t rt a1 ld k1 a2 ll k2 a3 lh k3 tg gr) 53 (0, 0))) := blk11 hb3 (at11 _ _ _ rfl)
      have c4 : w3.cell? ⟨w2.heap.size, 4, none⟩ = some (.int .u8 rt) := by rw [cell_of_row _ _ 4 _ _ _ X3.out]; rfl
      clear hb3
      go_wp2_with fail
      go_ret
      exact ⟨rfl, B3.out⟩
    | true =>
      clear HR
      go_wp2_with (refine wpList_load_by rfl 53 _ rfl ⟨w2.heap.size, 0, none⟩ _ rfl (load_part 53 10 sizeE aggE _ w2.heap.size 0 (enC i s nm t rt a1 ld k1 a2 ll k2 a3 lh k3 tg gr).toList _ (at11 _ _ _ rfl) (by simp)) ?_)
      refine (HT.out _ _ _ _ _ _ _).mono ?_
      rintro e w3 ⟨rfl, hb3⟩
      have B3 : Hid (Below w.heap.size w w3) := Below.andThen (Below.al B2.out _) hb3
      have X3 : Hid (w3.heap[w2.heap.size]? = some (.cells (enC i s nm t rt a1 ld k1 a2 ll k2 a3 lh k3 tg gr) 53 (0, 0))) := blk11 hb3 (at11 _ _ _ rfl)
      have c4 : w3.cell? ⟨w2.heap.size, 4, none⟩ = some (.int .u8 rt) := by rw [cell_of_row _ _ 4 _ _ _ X3.out]; rfl
      clear hb3
      go_wp2_with fail
      go_ret
      exact ⟨rfl, B3.out⟩
  | true =>
    cases r with
    | false =>
      cases out with
      | false =>
        have hr1 : (bits .and .u8 rt 2 == 0) = false := HR.out
        have hr2 : ¬ (bits .and .u8 rt 2 = 0) := by simpa using hr1
        clear HR
        go_wp2_with (refine wpList_load_by rfl 53 _ rfl ⟨w2.heap.size, 0, none⟩ _ rfl (load_part 53 10 sizeE aggE _ w2.heap.size 0 (enC i s nm t rt a1 ld k1 a2 ll k2 a3 lh k3 tg gr).toList _ (at11 _ _ _ rfl) (by simp)) ?_)
        refine (HT.out _ _ _ _ _ _ _).mono ?_
        rintro e w3 ⟨rfl, hb3⟩
        have B3 : Hid (Below w.heap.size w w3) := Below.andThen (Below.al B2.out _) hb3
        have X3 : Hid (w3.heap[w2.heap.size]? = some (.cells (enC i s nm t rt a1 ld k1 a2 ll k2 a3 lh k3 tg gr) 53 (0, 0))) := blk11 hb3 (at11 _ _ _ rfl)
        have c4 : w3.cell? ⟨w2.heap.size, 4, none⟩ = some (.int .u8 rt) := by rw [cell_of_row _ _ 4 _ _ _ X3.out]; rfl
        clear hb3
        go_wp2_with fail
        go_ret
        exact ⟨rfl, B3.out⟩
      | true =>
        have hr1 : (bits .and .u8 rt 1 == 0) = false := HR.out
        have hr2 : ¬ (bits .and .u8 rt 1 = 0) := by simpa using hr1
        clear HR
        go_wp2_with (refine wpList_load_by rfl 53 _ rfl ⟨w2.heap.size, 0, none⟩ _ rfl (load_part 53 10 sizeE aggE _ w2.heap.size 0 (enC i s nm t rt a1 ld k1 a2 ll k2 a3 lh k3 tg gr).toList _ (at11 _ _ _ rfl) (by simp)) ?_)
        refine (HT.out _ _ _ _ _ _ _).mono ?_
        rintro e w3 ⟨rfl, hb3⟩
        have B3 : Hid (Below w.heap.size w w3) := Below.andThen (Below.al B2.out _) hb3
        have X3 : Hid (w3.heap[w2.heap.size]? = some (.cells (enC i s nm t rt a1 ld k1 a2 ll k2 a3 lh k3 tg gr) 53 (0, 0))) := blk11 hb3 (at11 _ _ _ rfl)
        have c4 : w3.cell? ⟨w2.heap.size, 4, none⟩ = some (.int .u8 rt) := by rw [cell_of_row _ _ 4 _ _ _ X3.out]; rfl
        clear hb3
        go_wp2_with fail
        go_ret
        exact ⟨rfl, B3.out⟩
    | true =>
      cases out with
      | false =>
        have hr1 : (bits .and .u8 rt 2 == 0) = true := HR.out
        have hr2 : bits .and .u8 rt 2 = 0 := by simpa using hr1
        clear HR
        go_wp2_with (refine wpList_load_by rfl 53 _ rfl ⟨w2.heap.size, 0, none⟩ _ rfl (load_part 53 10 sizeE aggE _ w2.heap.size 0 (enC i s nm t rt a1 ld k1 a2 ll k2 a3 lh k3 tg gr).toList _ (at11 _ _ _ rfl) (by simp)) ?_)
        refine (HT.out _ _ _ _ _ _ _).mono ?_
        rintro e w3 ⟨rfl, hb3⟩
        have B3 : Hid (Below w.heap.size w w3) := Below.andThen (Below.al B2.out _) hb3
        have X3 : Hid (w3.heap[w2.heap.size]? = some (.cells (enC i s nm t rt a1 ld k1 a2 ll k2 a3 lh k3 tg gr) 53 (0, 0))) := blk11 hb3 (at11 _ _ _ rfl)
        have c4 : w3.cell? ⟨w2.heap.size, 4, none⟩ = some (.int .u8 rt) := by rw [cell_of_row _ _ 4 _ _ _ X3.out]; rfl
        clear hb3
        go_wp2_with fail
        go_ret
        exact ⟨rfl, B3.out⟩
      | true =>
        have hr1 : (bits .and .u8 rt 1 == 0) = true := HR.out
        have hr2 : bits .and .u8 rt 1 = 0 := by simpa using hr1
        clear HR
        go_wp2_with (refine wpList_load_by rfl 53 _ rfl ⟨w2.heap.size, 0, none⟩ _ rfl (load_part 53 10 sizeE aggE _ w2.heap.size 0 (enC i s nm t rt a1 ld k1 a2 ll k2 a3 lh k3 tg gr).toList _ (at11 _ _ _ rfl) (by simp)) ?_)
        refine (HT.out _ _ _ _ _ _ _).mono ?_
        rintro e w3 ⟨rfl, hb3⟩
        have B3 : Hid (Below w.heap.size w w3) := Below.andThen (Below.al B2.out _) hb3
        have X3 : Hid (w3.heap[w2.heap.size]? = some (.cells (enC i s nm t rt a1 ld k1 a2 ll k2 a3 lh k3 tg gr) 53 (0, 0))) := blk11 hb3 (at11 _ _ _ rfl)
        have c4 : w3.cell? ⟨w2.heap.size, 4, none⟩ = some (.int .u8 rt) := by rw [cell_of_row _ _ 4 _ _ _ X3.out]; rfl
        clear hb3
        go_wp2_with fail
        go_ret
        exact ⟨rfl, B3.out⟩

theorem mcheck_any (out : Bool) (p m : Nat) (cg : Int) (lst : Mp) (val : Int → Int → List Int) (x : Mz) (w : World) (hp : w.heap[p]? = some (.cells #[.map (some m), .int .i64 cg] 58 (0, 0))) (hm : IsM w m lst) (ho : ItOk w lst val) (h1 : 0 ≤ x.i) (h2 : x.i < 65536) :
    Calls Tryd.prog 21 #[mpV x.i x.s x.b, .pointer (some ⟨p, 0, none⟩), .bool out] w fun e w' => e = .returned (.int .u32 (cfD lst out x)) ∧ Below w.heap.size w w' := by
  cases hg : gapB x.i x.s x.b with
  | true =>
    rw [show cfD lst out x = (if out then 100925505 else 0) by unfold cfD; rw [if_pos hg]]
    exact mcheck_gap out _ x.i x.s x.b w h1 h2 hg
  | false =>
    cases hl : lookP lst x.i x.s with
    | none =>
      rw [show cfD lst out x = missC lst x.i by unfold cfD; rw [if_neg (by rw [hg]; decide), hl]]
      exact mcheck_miss out _ _ (miss_ne lst x.i) x.i x.s x.b w h1 h2 hg fun W hb => findE_miss p m cg lst x.i x.s W (blk11 hb hp) (hm.next hb) hl _ rfl
    | some u =>
      obtain ⟨nm, t, rt, d, ld, cd, l, ll, cl, h, lh, ch, tg, gr, v, lv, cv, zd, zl, zh, rfl, r1, r2, r3, _, g1, g2, g3, _⟩ := ho _ _ _ hl
      rw [show cfD lst out x = (if (((bits .and .u8 rt 4 != 0) && hasB t x.b) && !(bits .and .u8 rt (rgt out) == 0)) = true then 0 else 100925505) by unfold cfD; rw [if_neg (by rw [hg]; decide), hl]; rfl]
      exact mcheck_it out p m cg lst x.i x.s x.b nm t rt d ld cd l ll cl h lh ch tg gr v lv cv zd zl zh w hp hm hl r1 r2 r3 g1 g2 g3 h1 h2 hg
theorem hasB_bd {t b : Int} (h : hasB t b = true) : 0 ≤ b ∧ b ≤ 64 := by
  have := Ty.Pl.size_bd t
  simp only [hasB, Bool.and_eq_true, Bool.or_eq_true, decide_eq_true_eq, beq_iff_eq] at h
  omega
theorem cfD_bd {lst : Mp} {out : Bool} {x : Mz} (h : cfD lst out x = 0) : 0 ≤ x.b ∧ x.b ≤ 64 := by
  unfold cfD at h
  split at h
  · rename_i hg
    simp only [gapB, Bool.and_eq_true] at hg
    exact hasB_bd hg.2
  · split at h
    · exact absurd h (miss_ne _ _)
    · split at h
      · rename_i hq
        simp only [Bool.and_eq_true] at hq
        exact hasB_bd hq.1.2
      · exact absurd h (by decide)
/-- A mapping's code: of the Maps one by one, then of how many bits there are. -/
def chkZ (cf : Mz → Int) : List Mz → Int → Int
  | [], _ => 0
  | x :: l, n => if cf x ≠ 0 then cf x else if 64 < n + x.b then 100925506 else chkZ cf l (n + x.b)

set_option linter.unusedSimpArgs false in
set_option maxHeartbeats 4000000 in
set_option maxRecDepth 100000 in
theorem check_genZ (out : Bool) (pv : Value) (cf : Mz → Int) (ad : Option Addr) (gm off N cap : Nat) (had : 0 < N → ad = some ⟨gm, off, none⟩) (ms : List Mz) (w : World) (hN : ms.length = N) (h64 : N ≤ 64) (hM : MzAt w gm off ms) (hb1 : ∀ x ∈ ms, cf x = 0 → 0 ≤ x.b ∧ x.b ≤ 1000)
    (hC : ∀ W, Below w.heap.size w W → ∀ x ∈ ms, Calls Tryd.prog 21 #[mpV x.i x.s x.b, pv, .bool out] W fun e w' => e = .returned (.int .u32 (cf x)) ∧ Below W.heap.size W w') :
    Calls Tryd.prog 8 #[pv, .slice ad N cap, .bool out] w fun e w' => e = .returned (.int .u32 (chkZ cf ms 0)) ∧ Below w.heap.size w w' := by
  have HC : Hid (∀ W, Below w.heap.size w W → ∀ x ∈ ms, Calls Tryd.prog 21 #[mpV x.i x.s x.b, pv, .bool out] W fun e w' => e = .returned (.int .u32 (cf x)) ∧ Below W.heap.size W w') := hC
  have HAD : Hid (0 < N → ad = some ⟨gm, off, none⟩) := had
  have HM : Hid (MzAt w gm off ms) := hM
  have HB1 : Hid (∀ x ∈ ms, cf x = 0 → 0 ≤ x.b ∧ x.b ≤ 1000) := hb1
  obtain ⟨res, hres⟩ : ∃ res, Hid (res = chkZ cf ms 0) := ⟨_, rfl⟩
  rw [← hres.out]
  clear hC hM hb1 had
  go_enter Tryd.func8, Tryd.ntmps8
  go_wp2_with fail
  go_loopw [7, 16] (fun cv iv wr => ∃ (k : Nat) (n : Int), k ≤ N ∧ 0 ≤ n ∧ n ≤ 64 ∧ iv = .int .i64 (k : Int) ∧ cv = .int .i64 n ∧ Hid (res = chkZ cf (ms.drop k) n ∧ Below w.heap.size w wr)) (fun _ iv _ => N - (intOf iv).toNat)
  case atStart => exact ⟨0, 0, Nat.zero_le _, by decide, by decide, rfl, rfl, hres.out, Below.refl _ _⟩
  case round =>
    obtain ⟨k, n, hk, hn0, hn, rfl, rfl, HB⟩ := hrel
    by_cases hkN : k < N
    · obtain rfl := HAD.out (by omega)
      have gk : (k : Int) < (N : Int) := by omega
      have gk0 : (0 : Int) ≤ (k : Int) := by omega
      obtain ⟨x, hx⟩ : ∃ x, ms[k]? = some x := ⟨_, List.getElem?_eq_getElem (by omega)⟩
      obtain ⟨c0, c1, c2⟩ := (HM.out.next HB.out.2) k x hx
      have HX : Hid (x ∈ ms) := List.mem_of_getElem? hx
      have hxb := HB1.out x HX.out
      have DR : Hid (res = if cf x ≠ 0 then cf x else if 64 < n + x.b then 100925506 else chkZ cf (ms.drop (k + 1)) (n + x.b)) := by
        show _ = _
        obtain ⟨hk2, he⟩ := List.getElem?_eq_some_iff.1 hx
        have := HB.out.1
        rw [List.drop_eq_getElem_cons hk2, he] at this
        exact this
      have R6 : Hid (Below w.heap.size w wr) := HB.out.2
      obtain ⟨y, hy⟩ : ∃ y, Hid (y = cf x) := ⟨_, rfl⟩
      have wk : IntKind.i64.wrap ((k : Int) + 1) = ((k + 1 : Nat) : Int) := by rw [IntKind.wrap_i64]; omega
      have HCx : Hid (∀ W, Below w.heap.size w W → Calls Tryd.prog 21 #[mpV x.i x.s x.b, pv, .bool out] W fun e w' => e = .returned (.int .u32 y) ∧ Below W.heap.size W w') := fun W hb => by rw [hy.out]; exact HC.out W hb x HX.out
      rw [← hy.out] at DR
      clear hx HB
      go_wp2_with fail
      refine (HCx.out _ (Below.al R6.out _)).mono ?_
      rintro e w2 ⟨rfl, hb⟩
      have B2 : Hid (Below w.heap.size w w2) := Below.andThen (Below.al R6.out _) hb
      have X2 : Hid (w2.heap[wr.heap.size]? = some (.cells #[.int .u16 x.i, .int .u8 x.s, .int .i64 x.b] 48 (0, 0))) := blk11 hb (at11 _ _ _ rfl)
      have d2 : w2.cell? ⟨wr.heap.size, 2, none⟩ = some (.int .i64 x.b) := by rw [cell_of_row _ _ 2 _ _ _ X2.out]; rfl
      clear hb c0 c1 c2
      by_cases hy0 : y = 0
      · subst hy0
        obtain ⟨hx0, hx1⟩ := hxb hy.out.symm
        have ws : IntKind.i64.wrap (n + x.b) = n + x.b := by rw [IntKind.wrap_i64]; omega
        by_cases hs : 64 < n + x.b
        · have gs : (64 : Int) < n + x.b := by omega
          have FR : Hid (res = 100925506) := by show _ = _; rw [DR.out]; simp [hs]
          clear DR
          go_wp2_with fail
          go_ret
          exact ⟨by rw [FR.out]; rfl, B2.out⟩
        · have gs : ¬ ((64 : Int) < n + x.b) := by omega
          have FR : Hid (res = chkZ cf (ms.drop (k + 1)) (n + x.b)) := by show _ = _; rw [DR.out]; simp [hs]
          clear DR
          go_wp2_with fail
          exact ⟨⟨k + 1, n + x.b, by omega, by omega, by omega, by go_num, rfl, FR.out, B2.out⟩, by simp [intOf]; omega⟩
      · have FR : Hid (res = y) := by show _ = _; rw [DR.out]; simp [hy0]
        clear DR
        go_wp2_with fail
        go_ret
        exact ⟨by rw [FR.out]; rfl, B2.out⟩
    · obtain rfl : k = N := by omega
      have FR : Hid (res = 0) := by
        show _ = _
        rw [HB.out.1, List.drop_of_length_le (by omega)]
        rfl
      have R6 : Hid (Below w.heap.size w wr) := HB.out.2
      clear HB
      go_wp2_with fail
      go_ret
      exact ⟨by rw [FR.out]; rfl, R6.out⟩

def chkC (lst : Mp) (out : Bool) (ms : List Mz) : Int := if 64 < ms.length then 100925506 else chkZ (cfD lst out) ms 0
theorem check_any (out : Bool) (p m : Nat) (cg : Int) (lst : Mp) (val : Int → Int → List Int) (ad : Option Addr) (g off cap : Nat) (ms : List Mz) (had : 0 < ms.length → ad = some ⟨g, off, none⟩) (w : World) (hp : w.heap[p]? = some (.cells #[.map (some m), .int .i64 cg] 58 (0, 0))) (hm : IsM w m lst) (ho : ItOk w lst val) (hM : MzAt w g off ms) (hi : ∀ x ∈ ms, 0 ≤ x.i ∧ x.i < 65536) :
    Calls Tryd.prog 8 #[.pointer (some ⟨p, 0, none⟩), .slice ad ms.length cap, .bool out] w fun e w' => e = .returned (.int .u32 (chkC lst out ms)) ∧ Below w.heap.size w w' := by
  by_cases h : 64 < ms.length
  · rw [show chkC lst out ms = 100925506 by unfold chkC; rw [if_pos h]]
    exact (check_many out _ _ ms.length cap w h).mono fun e w' ⟨h1, h2⟩ => ⟨h1, by rw [h2]; exact Below.refl _ _⟩
  · rw [show chkC lst out ms = chkZ (cfD lst out) ms 0 by unfold chkC; rw [if_neg h]]
    exact check_genZ out _ (cfD lst out) ad g off ms.length cap had ms w rfl (by omega) hM (fun x _ hx => by have := cfD_bd hx; omega) fun W hb x hx => mcheck_any out p m cg lst val x W (blk11 hb hp) (hm.next hb) (ho.next hb) (hi x hx).1 (hi x hx).2
/-- Of a mapping that may be: each Map may be, and the bits are few. -/
theorem chkZ_zero (cf : Mz → Int) : ∀ (ms : List Mz) (n : Int), chkZ cf ms n = 0 → n ≤ 64 → (∀ x ∈ ms, cf x = 0) ∧ n + (ms.map (·.b)).sum ≤ 64
  | [], n, _, hn => ⟨fun x hx => (by cases hx), by simpa using hn⟩
  | x :: l, n, h, hn => by
    simp only [chkZ] at h
    split at h
    · rename_i h1; exact absurd h h1
    · rename_i h1
      split at h
      · exact absurd h (by decide)
      · rename_i h2
        have := chkZ_zero cf l (n + x.b) h (by omega)
        refine ⟨fun y hy => ?_, by have := this.2; simp only [List.map_cons, List.sum_cons]; omega⟩
        rcases List.mem_cons.1 hy with rfl | hy
        · simpa using h1
        · exact this.1 y hy
#print axioms check_any
end Go.Proofs.YtcdmldnaagiicaaDoor
namespace Go.Proofs.YtcdmldnaagiicaaDoor
open Go.RowKit

theorem chkN_size {t : Int} {z lo hi : List Int} (h : Ty.chkN t z lo hi = 0) (hs : 0 < Ty.Pl.sizeN t) : (z.length : Int) = Ty.Pl.sizeN t := by
  have hc : Ty.Pl.cbN t z = 0 := by
    unfold Ty.chkN at h
    split at h
    · rename_i hn; exact absurd h hn
    · rename_i hn; simpa using hn
  unfold Ty.Pl.cbN at hc
  rw [if_neg (by omega : ¬ Ty.Pl.sizeN t = 0)] at hc
  repeat' (split at hc)
  all_goals first | (exfalso; revert hc; decide) | omega
/-- The values of a dictionary that was made of entries. -/
def valE : List Em → Int → Int → List Int
  | [], _, _ => []
  | e :: r, i, s => if (i == e.i && s == e.s) = true then firstL e.t e.zd else valE r i s
theorem look_rel (Q : Em → Value → Prop) : ∀ (es : List Em) (lst : Mp) (i s : Int) (u : Value), lst.length = es.length → (∀ (k : Nat) (e : Em), es[k]? = some e → ∃ v, lst[k]? = some (e.i, e.s, v) ∧ Q e v) → lookP lst i s = some u → ∃ e ∈ es, e.i = i ∧ e.s = s ∧ valE es i s = firstL e.t e.zd ∧ Q e u
  | [], lst, i, s, u, hl, _, h => by
    have : lst = [] := List.eq_nil_of_length_eq_zero hl
    subst this
    cases h
  | e :: es, [], i, s, u, hl, _, h => by cases h
  | e :: es, x :: lst, i, s, u, hl, hr, h => by
    obtain ⟨v, hx, hq⟩ := hr 0 e rfl
    simp at hx
    subst hx
    simp only [lookP] at h
    by_cases hc : (i == e.i && s == e.s) = true
    · rw [if_pos hc] at h
      cases h
      obtain ⟨h1, h2⟩ : i = e.i ∧ s = e.s := by simpa using hc
      exact ⟨e, List.mem_cons_self, h1.symm, h2.symm, by simp only [valE]; rw [if_pos hc], hq⟩
    · rw [if_neg hc] at h
      obtain ⟨e', he, h1, h2, h3, h4⟩ := look_rel Q es lst i s u (by simpa using hl) (fun k e' he' => hr (k + 1) e' he') h
      exact ⟨e', List.mem_cons_of_mem _ he, h1, h2, by simp only [valE]; rw [if_neg hc]; exact h3, h4⟩
theorem newG_zero : ∀ (r a : List Em), newG a r = 0 → ∀ e ∈ r, mayE e = true
  | [], _, _, e, he => by cases he
  | x :: r, a, h, e, he => by
    simp only [newG] at h
    split at h
    · exact absurd h (by decide)
    · rename_i h1
      split at h
      · exact absurd h (by decide)
      · rcases List.mem_cons.1 he with rfl | he
        · simpa using h1
        · exact newG_zero r _ h e he
theorem newC_zero {es : List Em} (h : newC es = 0) : es.length ≤ 1024 ∧ ∀ e ∈ es, mayE e = true := by
  unfold newC at h
  split at h
  · exact absurd h (by decide)
  · exact ⟨by omega, newG_zero es [] h⟩
/-- What New made: every item is whole, and its value is the first one. -/
theorem built_items {w W : World} {lo : Nat} {es : List Em} {lst : Mp} (h : Built W lo es lst) (hc : newC es = 0) (hin : ∀ e ∈ es, EmIn w e) : ItOk W lst (valE es) := fun i s u hu => by
  obtain ⟨e, he, rfl, rfl, hv, a1, c1, a2, c2, a3, c3, v, lv, cv, rfl, k1, k2, k3, k4⟩ := look_rel (fun e u => ∃ a1 c1 a2 c2 a3 c3 v lv cv, u = .agg (itC e.i e.s e.nm e.t e.rt a1 e.ld c1 a2 e.ll c2 a3 e.lh c3 e.tg e.gr v lv cv) ∧ Kept W lo a1 e.ld c1 e.zd ∧ Kept W lo a2 e.ll c2 e.zl ∧ Kept W lo a3 e.lh c3 e.zh ∧ Kept W lo v lv cv (firstL e.t e.zd)) es lst i s u h.1 (fun k e he => by
    obtain ⟨a1, c1, a2, c2, a3, c3, v, lv, cv, g, k⟩ := h.2 k e he
    exact ⟨_, g, a1, c1, a2, c2, a3, c3, v, lv, cv, rfl, k⟩) hu
  obtain ⟨rd, rl, rh, b1, b2, b3⟩ := hin e he
  have hm := (mayB_yes ((newC_zero hc).2 e he)).2.2.2.2.2.2
  have hz : e.zd.length ≤ 16777216 := by rw [rd.row.size]; exact b1
  refine ⟨_, _, _, _, _, _, _, _, _, _, _, _, _, _, _, _, _, _, _, _, rfl, k1.1, k2.1, k3.1, ?_, b1, b2, b3, NF k4.1 hz, fun hs => ?_⟩
  · rw [hv]; exact k4.1
  · rw [← chkN_size hm hs, ← k4.1.row.size]
/-- Maps in memory, anywhere. -/
def MsO (W : World) (g off : Nat) (ms : List Mq) : Prop := ∀ (k : Nat) (x : Mq), ms[k]? = some x → W.cell? ⟨g, off + k * 3, none⟩ = some (.int .u16 x.i) ∧ W.cell? ⟨g, off + k * 3 + 1, none⟩ = some (.int .u8 x.s) ∧ W.cell? ⟨g, off + k * 3 + 2, none⟩ = some (.int .i64 (x.b : Int))
theorem MsO.next {W W' : World} {g off : Nat} {ms : List Mq} (h : MsO W g off ms) (hb : Below W.heap.size W W') : MsO W' g off ms := fun k x hx => by
  obtain ⟨h1, h2, h3⟩ := h k x hx
  exact ⟨by rw [hb.cell (p := ⟨g, off + k * 3, none⟩) (block_lt_of_cell h1)]; exact h1, by rw [hb.cell (p := ⟨g, off + k * 3 + 1, none⟩) (block_lt_of_cell h2)]; exact h2, by rw [hb.cell (p := ⟨g, off + k * 3 + 2, none⟩) (block_lt_of_cell h3)]; exact h3⟩
abbrev Mz.q (x : Mz) : Mq := ⟨x.i, x.s, x.b.toNat⟩
theorem MzAt.o {W : World} {g off : Nat} {ms : List Mz} (h : MzAt W g off ms) (hb : ∀ x ∈ ms, 0 ≤ x.b) : MsO W g off (ms.map Mz.q) := fun k x hx => by
  rw [List.getElem?_map] at hx
  obtain ⟨y, hy, rfl⟩ := Option.map_eq_some_iff.1 hx
  obtain ⟨h1, h2, h3⟩ := h k y hy
  have := hb y (List.mem_of_getElem? hy)
  exact ⟨h1, h2, by rw [h3]; show some (Value.int .i64 y.b) = some (Value.int .i64 (y.b.toNat : Int)); rw [Int.toNat_of_nonneg this]⟩
theorem sum_q : ∀ (ms : List Mz), (∀ x ∈ ms, 0 ≤ x.b) → ((((ms.map Mz.q).map (·.b)).sum : Nat) : Int) = (ms.map (·.b)).sum
  | [], _ => rfl
  | x :: l, h => by
    have := sum_q l fun y hy => h y (List.mem_cons_of_mem _ hy)
    have h0 := h x List.mem_cons_self
    simp only [List.map_cons, List.sum_cons] at this ⊢
    omega
set_option linter.unusedSimpArgs false in
set_option maxHeartbeats 4000000 in
set_option maxRecDepth 100000 in
theorem size_O (ad : Option Addr) (gm off N cap : Nat) (had : 0 < N → ad = some ⟨gm, off, none⟩) (ms : List Mq) (w : World) (hN : ms.length = N) (h64 : N ≤ 64) (hM : MsO w gm off ms) (hs : sumB ms N ≤ 64) :
    Calls Tryd.prog 10 #[.slice ad N cap] w fun e w' => e = .returned (.int .i64 (((sumB ms N + 7) / 8 : Nat) : Int)) ∧ Below w.heap.size w w' := by
  have HAD : Hid (0 < N → ad = some ⟨gm, off, none⟩) := had
  have HM : Hid (MsO w gm off ms) := hM
  have HF : Hid (∀ W, Calls Tryd.prog 25 #[.int .i64 ((sumB ms N : Nat) : Int)] W fun e w' => e = .returned (.int .i64 (((sumB ms N + 7) / 8 : Nat) : Int)) ∧ w' = W) := fun W => bytesFor_any _ W (by omega)
  clear hM had
  go_enter Tryd.func10, Tryd.ntmps10
  go_wp2_with fail
  go_loopw [3, 8] (fun cv iv wr => ∃ k : Nat, k ≤ N ∧ iv = .int .i64 (k : Int) ∧ cv = .int .i64 ((sumB ms k : Nat) : Int) ∧ Hid (Below w.heap.size w wr)) (fun _ iv _ => N - (intOf iv).toNat)
  case atStart => exact ⟨0, Nat.zero_le _, rfl, rfl, Below.refl _ _⟩
  case round =>
    obtain ⟨k, hk, rfl, rfl, HB⟩ := hrel
    by_cases hkN : k < N
    · obtain rfl := HAD.out (by omega)
      have gk : (k : Int) < (N : Int) := by omega
      have gk0 : (0 : Int) ≤ (k : Int) := by omega
      obtain ⟨x, hx⟩ : ∃ x, ms[k]? = some x := ⟨_, List.getElem?_eq_getElem (by omega)⟩
      obtain ⟨c0, c1, c2⟩ := (HM.out.next HB.out) k x hx
      have SS : Hid (sumB ms (k + 1) = sumB ms k + x.b) := sumB_succ hx
      have SL : Hid (sumB ms (k + 1) ≤ 64) := Nat.le_trans (sumB_le ms (by omega)) hs
      obtain ⟨sk, hsk⟩ : ∃ sk, Hid (sk = sumB ms k) := ⟨_, rfl⟩
      rw [← hsk.out] at SS ⊢
      have wk : IntKind.i64.wrap ((k : Int) + 1) = ((k + 1 : Nat) : Int) := by rw [IntKind.wrap_i64]; omega
      have ws : IntKind.i64.wrap ((sk : Int) + (x.b : Int)) = ((sk + x.b : Nat) : Int) := by have := SS.out; have := SL.out; rw [IntKind.wrap_i64]; omega
      have BA : Hid (∀ o, Below w.heap.size w (wr.alloc o)) := fun o => Below.al HB.out o
      clear hx
      go_wp2_with fail
      exact ⟨⟨k + 1, by omega, by go_num, by rw [SS.out]; go_num, BA.out _⟩, by simp [intOf]; omega⟩
    · obtain rfl : k = N := by omega
      go_wp2_with fail
      refine (HF.out _).mono ?_
      rintro e w2 ⟨rfl, rfl⟩
      go_wp2_with fail
      go_ret
      exact ⟨rfl, HB.out⟩
set_option linter.unusedSimpArgs false in
set_option maxHeartbeats 4000000 in
set_option maxRecDepth 100000 in
theorem pack_O (p m : Nat) (cg : Int) (lst : Mp) (ad : Option Addr) (gm off N cap : Nat) (ms : List Mq) (val : Int → Int → List Int) (w : World) (hp : w.heap[p]? = some (.cells #[.map (some m), .int .i64 cg] 58 (0, 0))) (hm : IsM w m lst) (hN : ms.length = N) (had : 0 < N → ad = some ⟨gm, off, none⟩) (h64 : N ≤ 64) (hM : MsO w gm off ms) (hC : Calls Tryd.prog 8 #[.pointer (some ⟨p, 0, none⟩), .slice ad N cap, .bool true] w fun e w' => e = .returned (.int .u32 0) ∧ Below w.heap.size w w') (hV : ∀ x ∈ ms, VaOk w lst val x) (hs : sumB ms N ≤ 64) :
    Calls Tryd.prog 9 #[.pointer (some ⟨p, 0, none⟩), .slice ad N cap] w fun e w' => ∃ g, e = .returned (.tuple #[.slice (some ⟨g, 0, none⟩) ((sumB ms N + 7) / 8) ((sumB ms N + 7) / 8), .int .u32 0]) ∧ w.heap.size ≤ g ∧ w'.heap[g]? = some (.cells ((pk ms val ((sumB ms N + 7) / 8) N).map (Value.int .u8)).toArray 5 (0, 0)) ∧ Below w.heap.size w w' := by
  obtain ⟨R, hR⟩ : ∃ R, Hid (R = (sumB ms N + 7) / 8) := ⟨_, rfl⟩
  rw [← hR.out]
  have HC : Hid (Calls Tryd.prog 8 #[.pointer (some ⟨p, 0, none⟩), .slice ad N cap, .bool true] w fun e w' => e = .returned (.int .u32 0) ∧ Below w.heap.size w w') := hC
  have HS : Hid (∀ W, Below w.heap.size w W → Calls Tryd.prog 10 #[.slice ad N cap] W fun e w' => e = .returned (.int .i64 (R : Int)) ∧ Below W.heap.size W w') := fun W hb => by rw [hR.out]; exact size_O ad gm off N cap had ms W hN h64 (hM.next hb) hs
  have HRd : Hid (∀ W, Below w.heap.size w W → ∀ x ∈ ms, Calls Tryd.prog 22 #[.pointer (some ⟨p, 0, none⟩), plV x.i x.s] W fun e w' => ∃ a' lv cap', e = .returned (.tuple #[.slice a' lv cap', .int .u32 0]) ∧ Told W w' a' lv cap' (val x.i x.s) ∧ lv ≤ 1000 ∧ x.b ≤ 8 * lv ∧ Below W.heap.size W w') := fun W hb x hx => read_mp ((hV x hx).next hb) (blk11 hb hp) (hm.next hb)
  have HAD : Hid (0 < N → ad = some ⟨gm, off, none⟩) := had
  have HM : Hid (MsO w gm off ms) := hM
  have hR8 : R ≤ 8 := by have := hR.out; omega
  have MK := mkZ R (by omega)
  clear hp hm hM hC hV had
  go_enter Tryd.func9, Tryd.ntmps9
  go_wp2_with fail
  refine HC.out.mono ?_
  rintro e w1 ⟨rfl, hb1⟩
  have B1 : Hid (Below w.heap.size w w1) := hb1
  clear hb1
  go_wp2_with fail
  refine (HS.out _ B1.out).mono ?_
  rintro e w2 ⟨rfl, hb2⟩
  have B2 : Hid (Below w.heap.size w w2) := Below.andThen B1.out hb2
  clear hb2
  go_wp2_with fail
  obtain ⟨g, hg⟩ : ∃ g, Hid (g = w2.heap.size) := ⟨_, rfl⟩
  rw [← hg.out]
  go_loopw [8, 24] (fun ev iv wr => ∃ k : Nat, k ≤ N ∧ iv = .int .i64 (k : Int) ∧ ev = .int .i64 ((sumB ms k : Nat) : Int) ∧ Hid (wr.heap[g]? = some (.cells ((pk ms val R k).map (Value.int .u8)).toArray 5 (0, 0)) ∧ Below w.heap.size w wr)) (fun _ iv _ => N - (intOf iv).toNat)
  case atStart => exact ⟨0, Nat.zero_le _, rfl, rfl, by rw [hg.out]; exact heap_new _ _, Below.al B2.out _⟩
  case round =>
    obtain ⟨k, hk, rfl, rfl, HR⟩ := hrel
    by_cases hkN : k < N
    · obtain rfl := HAD.out (by omega)
      have gk : (k : Int) < (N : Int) := by omega
      have gk0 : (0 : Int) ≤ (k : Int) := by omega
      obtain ⟨x, hx⟩ : ∃ x, ms[k]? = some x := ⟨_, List.getElem?_eq_getElem (by omega)⟩
      obtain ⟨c0, c1, c2⟩ := (HM.out.next HR.out.2) k x hx
      have SS : Hid (sumB ms (k + 1) = sumB ms k + x.b) := sumB_succ hx
      have SL : Hid (sumB ms (k + 1) ≤ sumB ms N) := sumB_le ms (by omega)
      have PS : Hid (pk ms val R (k + 1) = layB (val x.i x.s) 0 x.b (sumB ms k) (pk ms val R k)) := pk_succ hx
      obtain ⟨sk, hsk⟩ : ∃ sk, Hid (sk = sumB ms k) := ⟨_, rfl⟩
      rw [← hsk.out] at SS PS ⊢
      have HX : Hid (x ∈ ms) := List.mem_of_getElem? hx
      have wk : IntKind.i64.wrap ((k : Int) + 1) = ((k + 1 : Nat) : Int) := by rw [IntKind.wrap_i64]; omega
      have ws : IntKind.i64.wrap ((sk : Int) + (x.b : Int)) = ((sk + x.b : Nat) : Int) := by have := SS.out; have := SL.out; rw [IntKind.wrap_i64]; omega
      have lgr := lt_of_heap HR.out.1
      clear hx
      go_wp2_with fail
      refine (HRd.out _ (Below.al HR.out.2 _) x HX.out).mono ?_
      rintro e w3 ⟨a', lv, cap', rfl, ht, l1, l2, hb⟩
      have B3 : Hid (Below w.heap.size w w3) := Below.andThen (Below.al HR.out.2 _) hb
      have X3 : Hid (w3.heap[wr.heap.size]? = some (.cells #[.int .u16 x.i, .int .u8 x.s, .int .i64 (x.b : Int)] 48 (0, 0))) := blk11 hb (at11 _ _ _ rfl)
      have G3 : Hid (w3.heap[g]? = some (.cells ((pk ms val R k).map (Value.int .u8)).toArray 5 (0, 0))) := blk11 hb (ext11 HR.out.1)
      have T3 : Hid (Told (wr.alloc (.cells #[.int .u16 x.i, .int .u8 x.s, .int .i64 (x.b : Int)] 48)) w3 a' lv cap' (val x.i x.s)) := ht
      have d2 : w3.cell? ⟨wr.heap.size, 2, none⟩ = some (.int .i64 (x.b : Int)) := by rw [cell_of_row _ _ 2 _ _ _ X3.out]; rfl
      have lw := lt_of_heap X3.out
      clear hb c0 c1 c2 ht
      go_wp2_with fail
      refine (bits_any a' lv cap' 0 x.b w3).mono ?_
      rintro e w4 ⟨rfl, rfl⟩
      go_wp2_with fail
      have hpl := pk_len ms val R k
      have lg3 := lt_of_heap G3.out
      refine (lay_any _ (w3.heap.size + 1 + 1) (w3.heap.size + 1) w3.heap.size g R 0 sk x.b a' lv cap' (val x.i x.s) (pk ms val R k) (by omega) (by omega) (by have := SS.out; have := SL.out; have := hR.out; omega) (by omega) hpl (by omega) (by omega) (by omega) ?_ ?_ (ext11 (ext11 (ext11 G3.out)))).mono ?_
      · intro hp b o e
        obtain ⟨g', hg', hge, _⟩ := T3.out.own hp
        rw [e] at hg'
        cases hg'
        simp at hge
        omega
      · exact ⟨at11 _ _ _ (by simp), ext11 (at11 _ _ _ (by simp)), ext11 (ext11 (at11 _ _ _ rfl)), T3.out.row.next (by repeat (first | exact Below.refl _ _ | apply Below.drew | apply Below.al))⟩
      rintro e w5 ⟨rfl, h5, k5⟩
      have B5 : Hid (Below w.heap.size w w5) := Kp.below (Below.al (Below.al (Below.al B3.out _) _) _) k5 (by have := B3.out.size; simp; omega) (by have := hg.out; have := B2.out.size; simp; omega)
      have G5 : Hid (w5.heap[g]? = some (.cells ((pk ms val R (k + 1)).map (Value.int .u8)).toArray 5 (0, 0))) := by rw [PS.out]; exact h5
      have X5 : Hid (w5.heap[wr.heap.size]? = some (.cells #[.int .u16 x.i, .int .u8 x.s, .int .i64 (x.b : Int)] 48 (0, 0))) := k5.at (by simp; omega) (ext11 (ext11 (ext11 X3.out)))
      have d5 : w5.cell? ⟨wr.heap.size, 2, none⟩ = some (.int .i64 (x.b : Int)) := by rw [cell_of_row _ _ 2 _ _ _ X5.out]; rfl
      clear h5 k5 d2
      go_wp2_with fail
      exact ⟨⟨k + 1, by omega, by go_num, by rw [SS.out]; go_num, G5.out, B5.out⟩, by simp [intOf]; omega⟩
    · obtain rfl : k = N := by omega
      go_wp2_with fail
      go_ret2
      exact ⟨g, rfl, by have := hg.out; have := B2.out.size; omega, HR.out.1, HR.out.2⟩

set_option linter.unusedSimpArgs false in
set_option maxHeartbeats 4000000 in
set_option maxRecDepth 100000 in
theorem pack_fail (pv mv : Value) (code : Int) (hc : code ≠ 0) (w : World) (HC : Calls Tryd.prog 8 #[pv, mv, .bool true] w fun e w' => e = .returned (.int .u32 code) ∧ Below w.heap.size w w') :
    Calls Tryd.prog 9 #[pv, mv] w fun e w' => e = .returned (.tuple #[.slice none 0 0, .int .u32 code]) ∧ Below w.heap.size w w' := by
  have HCC : Hid (Calls Tryd.prog 8 #[pv, mv, .bool true] w fun e w' => e = .returned (.int .u32 code) ∧ Below w.heap.size w w') := HC
  clear HC
  go_enter Tryd.func9, Tryd.ntmps9
  go_wp2_with fail
  refine HCC.out.mono ?_
  rintro e w1 ⟨rfl, hb1⟩
  go_wp2_with fail
  go_ret2
  exact ⟨rfl, hb1⟩
/-- A Map that may be sent. -/
theorem cfD_va {w : World} {lst : Mp} {val : Int → Int → List Int} (ho : ItOk w lst val) {x : Mz} (hcf : cfD lst true x = 0) : VaOk w lst val x.q := by
  unfold cfD at hcf
  split at hcf
  · exact absurd hcf (by decide)
  · split at hcf
    · exact absurd hcf (miss_ne _ _)
    · rename_i u hl
      obtain ⟨nm, t, rt, d, ld, cd, l, ll, cl, h, lh, ch, tg, gr, v, lv, cv, zd, zl, zh, rfl, r1, r2, r3, r4, g1, g2, g3, g4, g5⟩ := ho _ _ _ hl
      split at hcf
      · rename_i hq
        simp only [Bool.and_eq_true] at hq
        obtain ⟨⟨_, h1⟩, h2⟩ := hq
        have h1 : hasB t x.b = true := h1
        have h2 : (!(bits .and .u8 rt 1 == 0)) = true := h2
        have hs := Ty.Pl.size_bd t
        have hb := hasB_bd h1
        have h3 : 0 < Ty.Pl.sizeN t ∧ (x.b = 8 * Ty.Pl.sizeN t ∨ t = 1 ∧ x.b = 1) := by
          simp only [hasB, Bool.and_eq_true, Bool.or_eq_true, decide_eq_true_eq, beq_iff_eq] at h1
          exact h1
        have h4 := g5 h3.1
        exact ⟨nm, t, rt, d, ld, cd, l, ll, cl, h, lh, ch, tg, gr, v, lv, cv, hl, r4, by omega, by show x.b.toNat ≤ 8 * lv; omega, by simpa using h2⟩
      · exact absurd hcf (by decide)
theorem pack_any (p m : Nat) (cg : Int) (lst : Mp) (val : Int → Int → List Int) (ad : Option Addr) (g off cap : Nat) (ms : List Mz) (had : 0 < ms.length → ad = some ⟨g, off, none⟩) (w : World) (hp : w.heap[p]? = some (.cells #[.map (some m), .int .i64 cg] 58 (0, 0))) (hm : IsM w m lst) (ho : ItOk w lst val) (hM : MzAt w g off ms) (hi : ∀ x ∈ ms, 0 ≤ x.i ∧ x.i < 65536) :
    Calls Tryd.prog 9 #[.pointer (some ⟨p, 0, none⟩), .slice ad ms.length cap] w fun e w' =>
      (chkC lst true ms ≠ 0 ∧ e = .returned (.tuple #[.slice none 0 0, .int .u32 (chkC lst true ms)]) ∧ Below w.heap.size w w') ∨
      (chkC lst true ms = 0 ∧ ∃ a R, R = (sumB (ms.map Mz.q) ms.length + 7) / 8 ∧ e = .returned (.tuple #[.slice (some ⟨a, 0, none⟩) R R, .int .u32 0]) ∧ w.heap.size ≤ a ∧ w'.heap[a]? = some (.cells ((pk (ms.map Mz.q) val R ms.length).map (Value.int .u8)).toArray 5 (0, 0)) ∧ Below w.heap.size w w') := by
  have HC := check_any true p m cg lst val ad g off cap ms had w hp hm ho hM hi
  by_cases h : chkC lst true ms = 0
  · rw [h] at HC
    have hl : ms.length ≤ 64 := by
      unfold chkC at h
      split at h
      · exact absurd h (by decide)
      · omega
    have hz : (∀ x ∈ ms, cfD lst true x = 0) ∧ 0 + (ms.map (·.b)).sum ≤ 64 := by
      unfold chkC at h
      rw [if_neg (by omega)] at h
      exact chkZ_zero _ ms 0 h (by decide)
    have hb : ∀ x ∈ ms, 0 ≤ x.b := fun x hx => (cfD_bd (hz.1 x hx)).1
    have hs : sumB (ms.map Mz.q) ms.length ≤ 64 := by
      unfold sumB
      rw [List.take_of_length_le (by simp)]
      have := sum_q ms hb
      omega
    refine (pack_O p m cg lst ad g off ms.length cap (ms.map Mz.q) val w hp hm (by simp) had hl (hM.o hb) HC (fun y hy => ?_) hs).mono ?_
    · obtain ⟨x, hx, rfl⟩ := List.mem_map.1 hy
      exact cfD_va ho (hz.1 x hx)
    · rintro e w' ⟨a, h1, h2, h3, h4⟩
      exact .inr ⟨h, a, _, rfl, h1, h2, h3, h4⟩
  · exact (pack_fail _ _ _ h w HC).mono fun e w' ⟨h1, h2⟩ => .inl ⟨h, h1, h2⟩
#print axioms built_items
#print axioms pack_any
end Go.Proofs.YtcdmldnaagiicaaDoor
namespace Go.Proofs.YtcdmldnaagiicaaDoor
open Go.RowKit

/-- A bit of a row. -/
def tb (zs : List Int) (k : Nat) : Bool := (zs.getD (k / 8) 0).toNat.testBit (k % 8)
theorem oct_getD {zs : List Int} (h : Oct zs) (k : Nat) : 0 ≤ zs.getD k 0 ∧ zs.getD k 0 < 256 := by
  rw [List.getD_eq_getElem?_getD]
  cases hq : zs[k]? with
  | none => simp
  | some x => exact h x (List.mem_of_getElem? hq)
theorem bitA_tb {zs : List Int} (h : Oct zs) (k : Nat) : bitA zs k = if tb zs k = true then 1 else 0 := by
  obtain ⟨h0, h1⟩ := oct_getD h (k / 8)
  unfold bitA tb
  generalize zs.getD (k / 8) 0 = x at h0 h1
  obtain ⟨n, rfl⟩ := Int.eq_ofNat_of_zero_le h0
  have hn : n < 256 := by omega
  have e1 : ((n : Int) / 2 ^ (k % 8)) = ((n / 2 ^ (k % 8) : Nat) : Int) := by rw [Int.natCast_ediv, Int.natCast_pow]; rfl
  have hl : n / 2 ^ (k % 8) < 256 := Nat.lt_of_le_of_lt (Nat.div_le_self _ _) hn
  have e2 := u8_and_nat (n / 2 ^ (k % 8)) 1 hl (by decide)
  rw [e1, show (1 : Int) = ((1 : Nat) : Int) from rfl, e2, Nat.and_one_is_mod, Int.toNat_natCast, Nat.testBit_eq_decide_div_mod_eq]
  by_cases hb : n / 2 ^ (k % 8) % 2 = 1
  · simp [hb]
  · have : n / 2 ^ (k % 8) % 2 = 0 := by omega
    simp [this]
/-- A bit as a number. -/
def nb (c : Bool) : Int := if c = true then 1 else 0
theorem nb_nat (c : Bool) : nb c = ((c.toNat : Nat) : Int) := by cases c <;> rfl
theorem orB_val {ys : List Int} (hy : Oct ys) (k : Nat) (c : Bool) : bits .or .u8 (ys.getD (k / 8) 0) (IntKind.u8.wrap (nb c * 2 ^ (k % 8))) = (((ys.getD (k / 8) 0).toNat ||| (c.toNat * 2 ^ (k % 8)) : Nat) : Int) := by
  obtain ⟨h0, h1⟩ := oct_getD hy (k / 8)
  have hp : c.toNat * 2 ^ (k % 8) < 256 := by
    have h8 : k % 8 < 8 := Nat.mod_lt _ (by decide)
    have : 2 ^ (k % 8) ≤ 2 ^ 7 := Nat.pow_le_pow_right (by decide) (by omega)
    cases c <;> simp <;> omega
  have e : nb c * 2 ^ (k % 8) = ((c.toNat * 2 ^ (k % 8) : Nat) : Int) := by rw [nb_nat, Int.natCast_mul, Int.natCast_pow]; rfl
  rw [e, show IntKind.u8.wrap ((c.toNat * 2 ^ (k % 8) : Nat) : Int) = ((c.toNat * 2 ^ (k % 8) : Nat) : Int) by rw [IntKind.wrap_u8']; omega, u8_or _ _ h0 h1 (by omega) (by omega), Int.toNat_natCast]
theorem or_lt {a b : Nat} (ha : a < 256) (hb : b < 256) : a ||| b < 256 := Nat.or_lt_two_pow (n := 8) ha hb
theorem orB_oct {ys : List Int} (hy : Oct ys) (k : Nat) (c : Bool) : Oct (orB ys k (nb c)) := fun n hn => by
  unfold orB at hn
  rw [orB_val hy] at hn
  rcases List.mem_or_eq_of_mem_set hn with h | rfl
  · exact hy n h
  · obtain ⟨h0, h1⟩ := oct_getD hy (k / 8)
    have hp : c.toNat * 2 ^ (k % 8) < 256 := by
      have h8 : k % 8 < 8 := Nat.mod_lt _ (by decide)
      have : 2 ^ (k % 8) ≤ 2 ^ 7 := Nat.pow_le_pow_right (by decide) (by omega)
      cases c <;> simp <;> omega
    have := or_lt (a := (ys.getD (k / 8) 0).toNat) (by omega) hp
    omega
theorem orB_tb {ys : List Int} (hy : Oct ys) (k : Nat) (hk : k / 8 < ys.length) (c : Bool) (j : Nat) : tb (orB ys k (nb c)) j = (tb ys j || (decide (j = k) && c)) := by
  unfold tb orB
  rw [orB_val hy]
  by_cases hj : j / 8 = k / 8
  · rw [hj, List.getD_eq_getElem?_getD, List.getElem?_set_self hk, Option.getD_some, Int.toNat_natCast, Nat.testBit_or]
    congr 1
    rw [Nat.mul_comm, Nat.testBit_two_pow_mul]
    by_cases h2 : j % 8 = k % 8
    · have : j = k := by omega
      subst this
      cases c <;> simp
    · have hne : ¬ j = k := fun e => h2 (by rw [e])
      simp only [hne, decide_false, Bool.false_and]
      by_cases h3 : k % 8 ≤ j % 8
      · simp only [h3, decide_true, Bool.true_and]
        have h4 : j % 8 - k % 8 ≠ 0 := by omega
        cases c
        · simp
        · show Nat.testBit 1 (j % 8 - k % 8) = false
          rw [show (1 : Nat) = 2 ^ 0 from rfl, Nat.testBit_two_pow]
          simp only [decide_eq_false_iff_not]
          omega
      · simp [h3]
  · have hne : ¬ j = k := fun e => hj (by rw [e])
    rw [List.getD_eq_getElem?_getD, List.getElem?_set_ne (fun e => hj e.symm), ← List.getD_eq_getElem?_getD]
    simp [hne]
/-- Bits laid, bit by bit. -/
theorem layL_tb (zs : List Int) (hz : Oct zs) (off fr cnt : Nat) (ys : List Int) (hy : Oct ys) (hl : fr + cnt ≤ 8 * ys.length) : ∀ n, n ≤ cnt → Oct (layL zs off fr ys ((bq cnt).take n)) ∧ ∀ j, tb (layL zs off fr ys ((bq cnt).take n)) j = (tb ys j || (decide (fr ≤ j ∧ j < fr + n) && tb zs (off + (j - fr))))
  | 0, _ => ⟨hy, fun j => by
      rw [show decide (fr ≤ j ∧ j < fr + 0) = false by rw [decide_eq_false_iff_not]; omega]
      simp [layL]⟩
  | n + 1, hn => by
    obtain ⟨h1, h2⟩ := layL_tb zs hz off fr cnt ys hy hl n (by omega)
    rw [← bq_at cnt n (by omega), layL_app, bitA_tb hz]
    have e : (if tb zs (off + n) = true then (1 : Int) else 0) = nb (tb zs (off + n)) := rfl
    rw [e]
    refine ⟨orB_oct h1 _ _, fun j => ?_⟩
    rw [orB_tb h1 _ (by rw [layL_len]; show (fr + n) / 8 < _; omega), h2 j, Bool.or_assoc]
    congr 1
    by_cases hj : j = fr + n
    · subst hj
      have c1 : ¬ (fr ≤ fr + n ∧ fr + n < fr + n) := by omega
      have c2 : fr ≤ fr + n ∧ fr + n < fr + (n + 1) := by omega
      have c3 : fr + n - fr = n := by omega
      simp [c3]
    · have : (fr ≤ j ∧ j < fr + n) ↔ (fr ≤ j ∧ j < fr + (n + 1)) := by omega
      simp [hj, this]
theorem layB_tb (zs : List Int) (hz : Oct zs) (off cnt fr : Nat) (ys : List Int) (hy : Oct ys) (hl : fr + cnt ≤ 8 * ys.length) : Oct (layB zs off cnt fr ys) ∧ ∀ j, tb (layB zs off cnt fr ys) j = (tb ys j || (decide (fr ≤ j ∧ j < fr + cnt) && tb zs (off + (j - fr)))) := by
  have := layL_tb zs hz off fr cnt ys hy hl cnt (Nat.le_refl _)
  rw [List.take_of_length_le (by rw [bq_len]; omega)] at this
  exact this
theorem tb_zero (R j : Nat) : tb (List.replicate R 0) j = false := by
  unfold tb
  rw [List.getD_eq_getElem?_getD, List.getElem?_replicate]
  split <;> simp
/-- What has been packed of the first ones, bit by bit. -/
theorem pk_tb (ms : List Mq) (val : Int → Int → List Int) (hv : ∀ x ∈ ms, Oct (val x.i x.s)) (R : Nat) (hR : sumB ms ms.length ≤ 8 * R) : ∀ k, k ≤ ms.length → Oct (pk ms val R k) ∧ (∀ j, sumB ms k ≤ j → tb (pk ms val R k) j = false) ∧ ∀ i x j, i < k → ms[i]? = some x → sumB ms i ≤ j → j < sumB ms (i + 1) → tb (pk ms val R k) j = tb (val x.i x.s) (j - sumB ms i)
  | 0, _ => ⟨fun n hn => by have := (List.mem_replicate.1 hn).2; subst this; decide, fun j _ => tb_zero R j, fun i x j hi => by omega⟩
  | k + 1, hk => by
    obtain ⟨h1, h2, h3⟩ := pk_tb ms val hv R hR k (by omega)
    obtain ⟨x, hx⟩ : ∃ x, ms[k]? = some x := ⟨_, List.getElem?_eq_getElem (by omega)⟩
    have hs := sumB_succ hx
    have hle := sumB_le ms (k := k + 1) (j := ms.length) hk
    obtain ⟨g1, g2⟩ := layB_tb (val x.i x.s) (hv x (List.mem_of_getElem? hx)) 0 x.b (sumB ms k) (pk ms val R k) h1 (by rw [pk_len]; omega)
    rw [pk_succ hx]
    refine ⟨g1, fun j hj => ?_, fun i y j hi hy hj1 hj2 => ?_⟩
    · rw [g2, h2 j (by omega)]
      have : ¬ (sumB ms k ≤ j ∧ j < sumB ms k + x.b) := by omega
      simp [this]
    · rw [g2]
      by_cases hik : i = k
      · subst hik
        rw [hx] at hy
        cases hy
        rw [h2 j hj1]
        have : sumB ms i ≤ j ∧ j < sumB ms i + x.b := by omega
        simp [this]
      · have hl := sumB_le ms (k := i + 1) (j := k) (by omega)
        rw [h3 i y j (by omega) hy hj1 hj2]
        have : ¬ (sumB ms k ≤ j ∧ j < sumB ms k + x.b) := by omega
        simp [this]
#print axioms pk_tb
end Go.Proofs.YtcdmldnaagiicaaDoor
