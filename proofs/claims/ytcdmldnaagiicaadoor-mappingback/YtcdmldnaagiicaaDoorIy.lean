/-
  MappingBack.
  Proved: MappingBack returns true of any entries, any Maps and any other values, where the library's table holds what the program's text lays (the tied card).
-/
import Derived.Test.YtcdmldnaagiicaaDoorIn
import Derived.Test.YtcdmldnaagiicaaDoorIk
import Derived.Test.YtcdmldnaagiicaaDoorTk9
import Derived.Test.YtcdmldnaagiicaaDoorLq
import Derived.WalkKit
import Derived.ProofKit
import Derived.OpenShut
import Derived.Deep.DeepHandedRow
import Derived.MakeChecks
import Derived.Stop.LaidErr
import Derived.ChangeOld
import Derived.ShutString
namespace Go.Proofs.YtcdmldnaagiicaaDoor
open Go.RowKit

/-- Write of any place, whatever it answers. -/
theorem DicA.writeA {w : World} {p m : Nat} {cg : Int} {I : Int → Int → Option It} (h : DicA w p m cg I) (i s : Int) (b : Option Addr) (lb cb : Nat) (zb : List Int) (rb : SlOk w b lb cb zb) (hlb : lb ≤ 16777216) (hc0 : 0 ≤ cg) (hc1 : cg < 4611686018427387904) (hne : p ≠ m) :
    Calls Tryd.prog 7 #[.pointer (some ⟨p, 0, none⟩), plV i s, .slice b lb cb] w fun e w' => ∃ c J cg', e = .returned (.int .u32 c) ∧ DicA w' p m cg' J ∧ SameI I J ∧ cg ≤ cg' ∧ cg' ≤ cg + 1 ∧ Kp [p, m] w w' := by
  obtain ⟨lst, h1, h2, h3, hT⟩ := h
  refine (write_dic p m cg lst I i s b lb cb zb w h1 h2 h3 rb hT hlb hc0 hc1 hne).mono ?_
  rintro e w' ⟨he, ⟨_, hb⟩ | ⟨_, lst', k1, k2, k3, k4⟩⟩
  · exact ⟨_, I, cg, he, ⟨lst, blk11 hb h1, h2.next hb, h3.next hb, tab_next hT hb⟩, SameI.refl I, Int.le_refl _, by omega, Kp.of hb⟩
  · exact ⟨_, _, _, he, ⟨lst', k1, k2, k3, tab_kpD hT h1 h2 k4⟩, (SameI.refl I).put _ _ _, by omega, Int.le_refl _, k4⟩
/-- A dictionary that stands, beside one that is written to. -/
structure DicB (w : World) (p m : Nat) (lst : Mp) (I : Int → Int → Option It) : Prop where
  h : w.heap[p]? = some (.cells #[.map (some m), .int .i64 0] 58 (0, 0))
  m : IsM w m lst
  i : ItD w lst I
  t : Ty.Tab64 w
theorem DicB.next {w w' : World} {p m : Nat} {lst : Mp} {I : Int → Int → Option It} (h : DicB w p m lst I) (hb : Below w.heap.size w w') : DicB w' p m lst I := ⟨blk11 hb h.h, h.m.next hb, h.i.next hb, tab_next h.t hb⟩
theorem DicB.kp {w w' : World} {p m : Nat} {lst : Mp} {I : Int → Int → Option It} (h : DicB w p m lst I) {p' m' : Nat} {cg : Int} {J : Int → Int → Option It} (hx : DicA w p' m' cg J) (hk : Kp [p', m'] w w') (n1 : p ≠ p') (n2 : p ≠ m') (n3 : m ≠ p') (n4 : m ≠ m') : DicB w' p m lst I := by
  obtain ⟨l2, h1, h2, _, _⟩ := hx
  exact ⟨hk.at (by simp; exact ⟨n1, n2⟩) h.h, h.m.kp hk (by simp; exact ⟨n3, n4⟩), h.i.kpD h1 h2 hk, tab_kpD h.t h1 h2 hk⟩
/-- The value of a Map that may be sent, of a dictionary of entries: it is one, and it may be written. -/
theorem back_val {w : World} {lst : Mp} {es : List Em} (hI : ItD w lst (itE es)) (hc : newC es = 0) {x : Mz} (h1 : cfD lst true x = 0) (h2 : cfD lst false x = 0) : gpB x.q = false ∧ (valI (itE es) x.i x.s).length = (x.q.b + 7) / 8 ∧ (∀ k, x.q.b ≤ k → tb (valI (itE es) x.i x.s) k = false) ∧ Oct (valI (itE es) x.i x.s) ∧ mayI (itE es) x.i x.s (valI (itE es) x.i x.s) ∧ itE es x.i x.s ≠ none := by
  have hb := cfD_bd h1
  have c1 := (cfD_cfI hI true x).1 h1
  have c2 := (cfD_cfI hI false x).1 h2
  have hg : gapB x.i x.s x.b = false := by
    cases hq : gapB x.i x.s x.b with
    | false => rfl
    | true => unfold cfI at c1; rw [hq] at c1; simp at c1
  unfold cfI at c1 c2
  rw [hg] at c1 c2
  rcases hI x.i x.s with ⟨_, e⟩ | ⟨y, hy, nm, d, ld, cd, l, ll, cl, h, lh, ch, gr, v, lv, cv, zd, _, _, _, _, r4, _⟩
  · rw [e] at c1; simp at c1
  · rw [hy] at c1 c2
    simp only [Bool.not_false, Bool.true_and, Bool.false_and, Bool.false_or, Bool.and_eq_true] at c1 c2
    have hm := itE_may hc hy
    have hv : valI (itE es) x.i x.s = y.zv := by unfold valI; rw [hy]
    have ho : Oct y.zv := r4.row.oct
    obtain ⟨q1, q2⟩ := val_bits hm c1.1.2
    rw [hv]
    refine ⟨by rw [gpB_q hb.1]; exact hg, q1, q2 ho, ho, ⟨y, hy, ?_, hm⟩, by rw [hy]; simp⟩
    have := c2.2
    simpa [rgt] using this
/-- What is packed of one dictionary is unpacked for another one: the same values, which may be written. -/
theorem back_un {w : World} {lst lst' : Mp} {es : List Em} {J : Int → Int → Option It} (hI : ItD w lst (itE es)) (hc : newC es = 0) (hS : SameI (itE es) J) (ms : List Mz) (h1 : chkC lst true ms = 0) (h2 : chkC lst false ms = 0) (R : Nat) (hR : R = (sumB (ms.map Mz.q) ms.length + 7) / 8) :
    Oct (pk (ms.map Mz.q) (valI (itE es)) R ms.length) ∧ unR (mcI lst' J) (pk (ms.map Mz.q) (valI (itE es)) R ms.length) (ms.map Mz.q) = 0 ∧ unV (pk (ms.map Mz.q) (valI (itE es)) R ms.length) (ms.map Mz.q) 0 = (ms.map Mz.q).map fun x => (x.i, x.s, valI (itE es) x.i x.s) := by
  obtain ⟨_, k1, kb, _⟩ := chkC_zeroB h1
  obtain ⟨_, k2, _, _⟩ := chkC_zeroB h2
  have B : ∀ x ∈ ms, _ := fun x hx => back_val hI hc (k1 x hx) (k2 x hx)
  have hO : ∀ y ∈ ms.map Mz.q, Oct (valI (itE es) y.i y.s) := fun y hy => by
    obtain ⟨x, hx, rfl⟩ := List.mem_map.1 hy
    exact (B x hx).2.2.2.1
  have hl : (ms.map Mz.q).length = ms.length := by simp
  have hR8 : sumB (ms.map Mz.q) (ms.map Mz.q).length ≤ 8 * R := by rw [hl]; omega
  have ht : ∀ i x, (ms.map Mz.q)[i]? = some x → tkB (pk (ms.map Mz.q) (valI (itE es)) R ms.length) (sumB (ms.map Mz.q) i) x.b = valI (itE es) x.i x.s := fun i x hx => by
    have := tk_pk (ms.map Mz.q) (valI (itE es)) hO R hR8 i x hx (by
      obtain ⟨y, hy, rfl⟩ := List.mem_map.1 (List.mem_of_getElem? hx)
      exact (B y hy).2.1) (by
      obtain ⟨y, hy, rfl⟩ := List.mem_map.1 (List.mem_of_getElem? hx)
      exact (B y hy).2.2.1)
    rw [hl] at this
    exact this
  have U := un_pk (mcI lst' J) (pk (ms.map Mz.q) (valI (itE es)) R ms.length) (ms.map Mz.q) (valI (itE es)) (fun y hy => by
      obtain ⟨x, hx, rfl⟩ := List.mem_map.1 hy
      exact (B x hx).1) ht (fun y hy => by
      obtain ⟨x, hx, rfl⟩ := List.mem_map.1 hy
      exact (hS.may (B x hx).2.2.2.2.1).k lst') (ms.map Mz.q) 0 rfl
  have z0 : sumB (ms.map Mz.q) 0 = 0 := by unfold sumB; simp
  rw [z0] at U
  have hO2 : Oct (pk (ms.map Mz.q) (valI (itE es)) R ms.length) := by
    have := (pk_tb (ms.map Mz.q) (valI (itE es)) hO R hR8 ms.length (by simp)).1
    exact this
  refine ⟨hO2, ?_, U.2⟩
  unfold unR
  rw [pk_len, hl, if_neg (by omega)]
  exact U.1

set_option linter.unusedSimpArgs false in
set_option maxHeartbeats 4000000 in
set_option maxRecDepth 100000 in
theorem mappingBack_any {w : World} {a0 : Option Addr} {len0 : Nat} {es : List Em} (h0 : IsEn w a0 len0 es) (cap0 : Nat) (lm0 : len0 ≤ maxLen) {a1 : Option Addr} {len1 : Nat} {ms : List Mz} (h1 : IsMz w a1 len1 ms) (cap1 : Nat) {a2 : Option Addr} {len2 : Nat} {vs : List Vz} (h2 : IsVz w a2 len2 vs) (cap2 : Nat) (hT : Ty.Tab64 w) :
    Calls Tryd.prog 3 #[.slice a0 len0 cap0, .slice a1 len1 cap1, .slice a2 len2 cap2] w fun e w' => e = .returned (.bool true) ∧ Below w.heap.size w w' := by
  have HT : Hid (Ty.Tab64 w) := hT
  have HS := size12 h0 cap0 lm0
  have H0 : Hid (IsEn w a0 len0 es) := h0
  have H1 : Hid (IsMz w a1 len1 ms) := h1
  have H2 : Hid (IsVz w a2 len2 vs) := h2
  have HWK : Hid (∀ W, Below w.heap.size w W → Calls Tryd.prog 5 #[] W fun e w' => e = .returned (.bool true) ∧ Below w.heap.size w w') := fun W hb => (works12 W (tab_next hT hb)).mono fun e w' ⟨h1, h2⟩ => ⟨h1, Below.andThen hb h2⟩
  clear h0 h1 h2 hT
  go_enter Tryd.func3, Tryd.ntmps3
  go_wp2_with fail
  refine HS.mono ?_
  rintro e w1 ⟨sz, rfl, hn, hf, hb⟩
  have B1 : Hid (Below w.heap.size w w1) := hb
  have HF : Hid (sz ≤ 5000 → len0 ≤ 5000 ∧ ∀ e ∈ es, e.ld ≤ 5000 ∧ e.ll ≤ 5000 ∧ e.lh ≤ 5000) := hf
  clear HS hf hb
  by_cases hn5 : 5000 < sz
  · have gn : (5000 : Int) < (sz : Int) := by omega
    go_wp2_with fail
    refine (HWK.out _ B1.out).mono ?_
    rintro e w9 ⟨rfl, hb⟩
    go_wp2_with fail
    go_ret
    exact ⟨rfl, hb⟩
  have gn : ¬ ((5000 : Int) < (sz : Int)) := by omega
  by_cases hl1 : 100 < len1
  · have gl : (100 : Int) < (len1 : Int) := by omega
    go_wp2_with fail
    refine (HWK.out _ B1.out).mono ?_
    rintro e w9 ⟨rfl, hb⟩
    go_wp2_with fail
    go_ret
    exact ⟨rfl, hb⟩
  have gl : ¬ ((100 : Int) < (len1 : Int)) := by omega
  by_cases hm2 : 20 < len2
  · have gm : (20 : Int) < (len2 : Int) := by omega
    go_wp2_with fail
    refine (HWK.out _ B1.out).mono ?_
    rintro e w9 ⟨rfl, hb⟩
    go_wp2_with fail
    go_ret
    exact ⟨rfl, hb⟩
  have gm : ¬ ((20 : Int) < (len2 : Int)) := by omega
  have hF := HF.out (by omega)
  obtain ⟨eb, eo, had0, hat0⟩ : ∃ b off, (0 < es.length → a0 = some ⟨b, off, none⟩) ∧ ∀ (k : Nat) (e : Em), es[k]? = some e → EmAtO w b off k e := by
    by_cases hz : 0 < len0
    · obtain ⟨b, off, e, h⟩ := H0.out.at_ hz
      exact ⟨b, off, fun _ => e, h⟩
    · have hs := H0.out.size
      refine ⟨0, 0, fun h => by omega, fun k x hx => ?_⟩
      have := (List.getElem?_eq_some_iff.1 hx).1
      omega
  have hin : ∀ e ∈ es, EmIn w e := fun e he => by
    have a := H0.out.ok e he
    have b := hF.2 e he
    exact ⟨a.rd, a.rl, a.rh, by omega, by omega, by omega⟩
  have HIN : Hid (∀ e ∈ es, EmIn w e) := hin
  have HNW : Hid (∀ W, Below w.heap.size w W → Calls Tryd.prog 6 #[.slice a0 len0 cap0] W (NewAny es W)) := fun W B => by
    have NW := new_any a0 eb eo cap0 es W had0 (fun e he => ⟨(hin e he).rd.next B, (hin e he).rl.next B, (hin e he).rh.next B, (hin e he).b1, (hin e he).b2, (hin e he).b3⟩) (fun k x hx => by
      obtain ⟨m0, m1, m2, m3, m4, m5, m6, m7, m8, m9⟩ := hat0 k x hx
      exact ⟨(B.cell (block_lt_of_cell m0)).trans m0, (B.cell (block_lt_of_cell m1)).trans m1, (B.cell (block_lt_of_cell m2)).trans m2, (B.cell (block_lt_of_cell m3)).trans m3, (B.cell (block_lt_of_cell m4)).trans m4, (B.cell (block_lt_of_cell m5)).trans m5, (B.cell (block_lt_of_cell m6)).trans m6, (B.cell (block_lt_of_cell m7)).trans m7, (B.cell (block_lt_of_cell m8)).trans m8, (B.cell (block_lt_of_cell m9)).trans m9⟩) (tab_next HT.out B)
    rw [H0.out.size] at NW
    exact NW
  obtain ⟨g, off, had1, hM1⟩ : ∃ b off, (0 < ms.length → a1 = some ⟨b, off, none⟩) ∧ MzAt w b off ms := by
    by_cases hz : 0 < len1
    · obtain ⟨b, off, e, h⟩ := H1.out.at_ hz
      exact ⟨b, off, fun _ => e, h⟩
    · have hs := H1.out.size
      refine ⟨0, 0, fun h => by omega, fun k x hx => ?_⟩
      have := (List.getElem?_eq_some_iff.1 hx).1
      omega
  have HAD : Hid (0 < ms.length → a1 = some ⟨g, off, none⟩) := had1
  have HM : Hid (MzAt w g off ms) := hM1
  have HI : Hid (∀ x ∈ ms, 0 ≤ x.i ∧ x.i < 65536) := H1.out.ok
  have HL : Hid (ms.length = len1) := H1.out.size
  clear HF hF had0 hat0 hin had1 hM1
  have NW := HNW.out _ B1.out
  go_wp2_with fail
  refine NW.mono ?_
  rintro e w2 (⟨hc, lst, rfl, hb, hp, hm, hbu⟩ | ⟨hc, rfl, hb⟩)
  case inr =>
    have B2 : Hid (Below w.heap.size w w2) := Below.andThen B1.out hb
    obtain ⟨C, hC⟩ : ∃ C, Hid (C = newC es) := ⟨_, rfl⟩
    rw [← hC.out] at hc ⊢
    have hc' : ¬ C = 0 := hc
    have NW2 := HNW.out _ B2.out
    clear NW hb hc
    go_wp2_with fail
    refine NW2.mono ?_
    rintro e w3 (⟨hc2, _⟩ | ⟨hc2, rfl, hb⟩)
    · exact absurd (hC.out.trans hc2) hc'
    have B3 : Hid (Below w.heap.size w w3) := Below.andThen B2.out hb
    rw [← hC.out]
    clear NW2 hb hc2
    go_wp2_with fail
    refine (HWK.out _ B3.out).mono ?_
    rintro e w9 ⟨rfl, hb⟩
    go_wp2_with fail
    go_ret
    exact ⟨rfl, hb⟩
  have B2 : Hid (Below w.heap.size w w2) := Below.andThen B1.out hb
  have IT : Hid (ItD w2 lst (itE es)) := built_dic hbu hc HIN.out
  obtain ⟨P, hP⟩ : ∃ P, Hid (P = w1.heap.size + 1) := ⟨_, rfl⟩
  obtain ⟨M, hMM⟩ : ∃ M, Hid (M = w1.heap.size) := ⟨_, rfl⟩
  rw [← hP.out, ← hMM.out] at hp
  rw [← hMM.out] at hm
  rw [← hP.out]
  have D2 : Hid (DicB w2 P M lst (itE es)) := ⟨hp, hm, IT.out, tab_next HT.out B2.out⟩
  have PL : Hid (P < w2.heap.size ∧ M < w2.heap.size) := ⟨lt_of_heap hp, hm.lt⟩
  have HC0 : Hid (newC es = 0) := hc
  have NW2 := HNW.out _ B2.out
  clear NW hb hp hm hbu hc IT hP hMM
  go_wp2_with fail
  refine NW2.mono ?_
  rintro e w3 (⟨hc2, lst2, rfl, hb, hp, hm, hbu⟩ | ⟨hc2, rfl, hb⟩)
  case inr => exact absurd HC0.out hc2
  have B3 : Hid (Below w.heap.size w w3) := Below.andThen B2.out hb
  have D3 : Hid (DicB w3 P M lst (itE es)) := D2.out.next hb
  have X3 : Hid (DicA w3 (w2.heap.size + 1) w2.heap.size 0 (itE es)) := ⟨lst2, hp, hm, built_dic hbu hc2 HIN.out, tab_next HT.out B3.out⟩
  obtain ⟨P2, hP2⟩ : ∃ P, Hid (P = w2.heap.size + 1) := ⟨_, rfl⟩
  obtain ⟨M2, hM2⟩ : ∃ M, Hid (M = w2.heap.size) := ⟨_, rfl⟩
  rw [← hP2.out, ← hM2.out] at X3
  rw [← hP2.out]
  have NE : Hid (P2 ≠ M2 ∧ P ≠ P2 ∧ P ≠ M2 ∧ M ≠ P2 ∧ M ≠ M2) := by
    have := hP2.out
    have := hM2.out
    have := PL.out
    exact ⟨by omega, by omega, by omega, by omega, by omega⟩
  have GE : Hid (∀ b ∈ [P2, M2], w.heap.size ≤ b) := fun b hb => by
    have := hP2.out
    have := hM2.out
    have := B2.out.size
    simp at hb
    omega
  obtain ⟨I, hII⟩ : ∃ I, Hid (I = itE es) := ⟨_, rfl⟩
  rw [← hII.out] at X3 D3
  clear NW2 hb hp hm hbu hc2 D2 HNW HT HIN
  have VSZ := H2.out.size
  go_wp2_with fail
  go_loopw [11] (fun iv wr => ∃ k : Nat, k ≤ len2 ∧ iv = .int .i64 (k : Int) ∧ Hid (Below w.heap.size w wr ∧ DicB wr P M lst I ∧ ∃ J cg, DicA wr P2 M2 cg J ∧ SameI I J ∧ 0 ≤ cg ∧ cg ≤ k)) (fun iv _ => len2 - (intOf iv).toNat)
  case atStart => exact ⟨0, Nat.zero_le _, rfl, B3.out, D3.out, I, 0, X3.out, SameI.refl I, Int.le_refl _, by simp⟩
  case round =>
    obtain ⟨k, hk, rfl, HR⟩ := hrel
    obtain ⟨hBR, hDR, J, cg, hXR, hSJ, hcg0, hcg1⟩ := HR.out
    have BR : Hid (Below w.heap.size w wr) := hBR
    have DR : Hid (DicB wr P M lst I) := hDR
    have XR : Hid (DicA wr P2 M2 cg J) := hXR
    have SJ : Hid (SameI I J) := hSJ
    have CG : Hid (0 ≤ cg ∧ cg ≤ k) := ⟨hcg0, hcg1⟩
    clear hBR hDR hXR hSJ hcg0 hcg1 HR
    by_cases hkL : k < len2
    · have gk : (k : Int) < (len2 : Int) := by omega
      have gk0 : (0 : Int) ≤ (k : Int) := by omega
      obtain ⟨gb, go, rfl, hat⟩ := H2.out.at_ (by omega)
      obtain ⟨v, hv⟩ : ∃ v, vs[k]? = some v := ⟨_, List.getElem?_eq_getElem (by omega)⟩
      obtain ⟨c0, c1, c2⟩ := hat k v hv
      obtain ⟨hsl, hvn⟩ := H2.out.ok v (List.mem_of_getElem? hv)
      obtain ⟨vi, vj, va, vn, vc, vz⟩ := v
      dsimp only at c0 c1 c2 hsl hvn
      have CEL : Hid (∀ W, Below w.heap.size w W → W.cell? ⟨gb, go + k * 3, none⟩ = some (.int .u16 vi) ∧ W.cell? ⟨gb, go + k * 3 + 1, none⟩ = some (.int .u8 vj) ∧ W.cell? ⟨gb, go + k * 3 + 2, none⟩ = some (.slice va vn vc)) := fun W hW => ⟨(hW.cell (block_lt_of_cell c0)).trans c0, (hW.cell (block_lt_of_cell c1)).trans c1, (hW.cell (block_lt_of_cell c2)).trans c2⟩
      have SL : Hid (SlOk w va vn vc vz) := hsl
      have wk : IntKind.i64.wrap ((k : Int) + 1) = ((k + 1 : Nat) : Int) := by rw [IntKind.wrap_i64]; omega
      obtain ⟨d0, d1, d2⟩ := CEL.out _ BR.out
      clear hat hv c0 c1 c2 hsl
      by_cases hn50 : vn ≤ 5000
      · have g50 : (vn : Int) ≤ 5000 := by omega
        have HWR : Hid (∀ W, Below wr.heap.size wr W → Calls Tryd.prog 7 #[.pointer (some ⟨P2, 0, none⟩), plV vi vj, .slice va vn vc] W fun e w' => ∃ c J cg', e = .returned (.int .u32 c) ∧ DicA w' P2 M2 cg' J ∧ SameI I J ∧ 0 ≤ cg' ∧ cg' ≤ (k + 1 : Nat) ∧ Kp [P2, M2] W w') := fun W hW => by
          have := CG.out
          refine ((XR.out.next hW).writeA vi vj va vn vc vz (SL.out.next (Below.andThen BR.out hW)) (by omega) (by omega) (by omega) NE.out.1).mono ?_
          rintro e w' ⟨c, J', cg', q1, q2, q3, q4, q5, q6⟩
          refine ⟨c, J', cg', q1, q2, ?_, by omega, by omega, q6⟩
          intro i s
          rcases SJ.out i s with ⟨r1, r2⟩ | ⟨x, y, r1, r2, r3, r4, r5, r6⟩
          · rcases q3 i s with ⟨_, t2⟩ | ⟨x', y', t1, _⟩
            · exact .inl ⟨r1, t2⟩
            · rw [r2] at t1; cases t1
          · rcases q3 i s with ⟨t1, _⟩ | ⟨x', y', t1, t2, t3, t4, t5, t6⟩
            · rw [r2] at t1; cases t1
            · rw [r2] at t1
              cases t1
              exact .inr ⟨x, y', r1, t2, t3.trans r3, t4.trans r4, t5.trans r5, t6.trans r6⟩
        clear CG SL SJ
        go_wp2_with fail
        refine wp_region_held_drew (S := fun z => Below w.heap.size w z ∧ DicB z P M lst I) (by kernel_rfl) ((show _ ∧ _ from ⟨⟨BR.out.os, BR.out.tape, BR.out.output, BR.out.size, BR.out.block⟩, DR.out.next (Below.drew (Below.refl _ _))⟩)) (fun hHeld => ?_)
        refine tk 0 (.pointer (some ⟨P2, 0, none⟩)) rfl (.inl ⟨by rfl, ?_⟩) ?_
        · intro w9 hSw
          try dsimp only at hSw
          go_simp
          all_goals try decide
          all_goals try assumption
          all_goals try omega
        try simp only [Act.put, gA, gS, gZ, sA, sZ, sS]
        refine tk 1 (.slice (some ⟨gb, go, none⟩) len2 cap2) rfl (.inl ⟨by rfl, ?_⟩) ?_
        · intro w9 hSw
          try dsimp only at hSw
          go_simp
          all_goals try decide
          all_goals try assumption
          all_goals try omega
        try simp only [Act.put, gA, gS, gZ, sA, sZ, sS]
        refine tk 2 (.int .i64 (k : Int)) rfl (.inl ⟨by rfl, ?_⟩) ?_
        · intro w9 hSw
          try dsimp only at hSw
          go_simp
          all_goals try decide
          all_goals try assumption
          all_goals try omega
        try simp only [Act.put, gA, gS, gZ, sA, sZ, sS]
        refine tk 3 (.pointer (some ⟨gb, go + k * 3, none⟩)) rfl (.inl ⟨by rfl, ?_⟩) ?_
        · intro w9 hSw
          try dsimp only at hSw
          go_simp
          all_goals try decide
          all_goals try assumption
          all_goals try omega
        try simp only [Act.put, gA, gS, gZ, sA, sZ, sS]
        refine tk 4 (.pointer (some ⟨gb, go + k * 3, none⟩)) rfl (.inl ⟨by rfl, ?_⟩) ?_
        · intro w9 hSw
          try dsimp only at hSw
          go_simp
          all_goals try decide
          all_goals try assumption
          all_goals try omega
        try simp only [Act.put, gA, gS, gZ, sA, sZ, sS]
        refine tk 5 (plV vi vj) rfl (.inl ⟨by rfl, ?_⟩) ?_
        · intro w9 hSw
          try dsimp only at hSw
          obtain ⟨d0, d1, d2⟩ := CEL.out w9 hSw.1
          go_simp
          all_goals try assumption
        try simp only [Act.put, gA, gS, gZ, sA, sZ, sS]
        refine tk 6 (.slice (some ⟨gb, go, none⟩) len2 cap2) rfl (.inl ⟨by rfl, ?_⟩) ?_
        · intro w9 hSw
          try dsimp only at hSw
          go_simp
          all_goals try decide
          all_goals try assumption
          all_goals try omega
        try simp only [Act.put, gA, gS, gZ, sA, sZ, sS]
        refine tk 7 (.int .i64 (k : Int)) rfl (.inl ⟨by rfl, ?_⟩) ?_
        · intro w9 hSw
          try dsimp only at hSw
          go_simp
          all_goals try decide
          all_goals try assumption
          all_goals try omega
        try simp only [Act.put, gA, gS, gZ, sA, sZ, sS]
        refine tk 8 (.pointer (some ⟨gb, go + k * 3, none⟩)) rfl (.inl ⟨by rfl, ?_⟩) ?_
        · intro w9 hSw
          try dsimp only at hSw
          go_simp
          all_goals try decide
          all_goals try assumption
          all_goals try omega
        try simp only [Act.put, gA, gS, gZ, sA, sZ, sS]
        refine tk 9 (.pointer (some ⟨gb, go + k * 3 + 2, none⟩)) rfl (.inl ⟨by rfl, ?_⟩) ?_
        · intro w9 hSw
          try dsimp only at hSw
          go_simp
          all_goals try decide
          all_goals try assumption
          all_goals try omega
        try simp only [Act.put, gA, gS, gZ, sA, sZ, sS]
        refine tk 10 (.slice va vn vc) rfl (.inl ⟨by rfl, ?_⟩) ?_
        · intro w9 hSw
          try dsimp only at hSw
          obtain ⟨d0, d1, d2⟩ := CEL.out w9 hSw.1
          go_simp
          all_goals try assumption
        try simp only [Act.put, gA, gS, gZ, sA, sZ, sS]
        refine wpAnyH_ready (rs := [11]) (by kernel_rfl) (by simp) ?_
        refine AllReadyH.cons rfl (fun K' hK => ?_) AllReadyH.nil
        rw [if_pos (by rfl)]
        simp only [gA, gS, gZ]
        go_wp2_with fail
        refine (HWR.out _ (Below.drew (Below.refl _ _))).mono ?_
        rintro e z3 ⟨cc, J3, cg3, rfl, hx3, hs3, hc3, hd3, hk3⟩
        have N3 : Hid (Below w.heap.size w z3 ∧ DicB z3 P M lst I) := (show _ ∧ _ from ⟨Kp.below (c := z3) (b := wr.drew) ⟨BR.out.os, BR.out.tape, BR.out.output, BR.out.size, BR.out.block⟩ hk3 BR.out.size GE.out, (DR.out.next (Below.drew (Below.refl _ _))).kp (XR.out.next (Below.drew (Below.refl _ _))) hk3 NE.out.2.1 NE.out.2.2.1 NE.out.2.2.2.1 NE.out.2.2.2.2⟩)
        have F : Hid (Below w.heap.size w z3 ∧ DicB z3 P M lst I ∧ ∃ J cg, DicA z3 P2 M2 cg J ∧ SameI I J ∧ 0 ≤ cg ∧ cg ≤ (k + 1 : Nat)) := ⟨N3.out.1, N3.out.2, J3, cg3, hx3, hs3, hc3, hd3⟩
        clear hx3 hs3 hc3 hd3 hk3
        try go_wp2_with fail
        refine hK.out _ _ (N3.out) (fun hHeld => ?_)
        clear hK K'
        try simp only [Act.put, gA, gS, gZ, sA, sZ, sS]
        refine wpAnyH_done (by kernel_rfl) ?_ _
        go_wp2_with fail
        exact ⟨⟨k + 1, by omega, by go_num, F.out⟩, by simp [intOf]; omega⟩
      · have g50 : ¬ ((vn : Int) ≤ 5000) := by omega
        have F : Hid (Below w.heap.size w wr ∧ DicB wr P M lst I ∧ ∃ J cg, DicA wr P2 M2 cg J ∧ SameI I J ∧ 0 ≤ cg ∧ cg ≤ (k + 1 : Nat)) := ⟨BR.out, DR.out, J, cg, XR.out, SJ.out, CG.out.1, by have := CG.out.2; omega⟩
        go_wp2_with fail
        exact ⟨⟨k + 1, by omega, by go_num, F.out⟩, by simp [intOf]; omega⟩
    · obtain rfl : k = len2 := by omega
      have CK := check_any true P M 0 lst (valI I) a1 g off cap1 ms HAD.out wr DR.out.h DR.out.m DR.out.i.ok (HM.out.next BR.out) HI.out
      rw [HL.out] at CK
      obtain ⟨CC, hCC⟩ : ∃ CC, Hid (CC = chkC lst true ms) := ⟨_, rfl⟩
      rw [← hCC.out] at CK
      go_wp2_with fail
      refine CK.mono ?_
      rintro e w5 ⟨rfl, hb⟩
      have B5 : Hid (Below w.heap.size w w5) := Below.andThen BR.out hb
      have D5 : Hid (DicB w5 P M lst I) := DR.out.next hb
      have X5 : Hid (DicA w5 P2 M2 cg J) := XR.out.next hb
      clear CK hb BR DR XR
      by_cases hcc : CC = 0
      case neg =>
        go_wp2_with fail
        refine (HWK.out _ B5.out).mono ?_
        rintro e w9 ⟨rfl, hb⟩
        go_wp2_with fail
        go_ret
        exact ⟨rfl, hb⟩
      subst hcc
      have CK := check_any false P M 0 lst (valI I) a1 g off cap1 ms HAD.out w5 D5.out.h D5.out.m D5.out.i.ok (HM.out.next B5.out) HI.out
      rw [HL.out] at CK
      obtain ⟨CD, hCD⟩ : ∃ CD, Hid (CD = chkC lst false ms) := ⟨_, rfl⟩
      rw [← hCD.out] at CK
      go_wp2_with fail
      refine CK.mono ?_
      rintro e w6 ⟨rfl, hb⟩
      have B6 : Hid (Below w.heap.size w w6) := Below.andThen B5.out hb
      have D6 : Hid (DicB w6 P M lst I) := D5.out.next hb
      have X6 : Hid (DicA w6 P2 M2 cg J) := X5.out.next hb
      clear CK hb B5 D5 X5
      by_cases hcd : CD = 0
      case neg =>
        go_wp2_with fail
        refine (HWK.out _ B6.out).mono ?_
        rintro e w9 ⟨rfl, hb⟩
        go_wp2_with fail
        go_ret
        exact ⟨rfl, hb⟩
      subst hcd
      have PK := pack_any P M 0 lst (valI I) a1 g off cap1 ms HAD.out w6 D6.out.h D6.out.m D6.out.i.ok (HM.out.next B6.out) HI.out
      rw [HL.out] at PK
      go_wp2_with fail
      refine PK.mono ?_
      rintro e w7 (⟨hc, _⟩ | ⟨_, pa, R, hR, rfl, _, hrow, hb⟩)
      · exact absurd hCC.out.symm hc
      have B7 : Hid (Below w.heap.size w w7) := Below.andThen B6.out hb
      have D7 : Hid (DicB w7 P M lst I) := D6.out.next hb
      have X7 : Hid (DicA w7 P2 M2 cg J) := X6.out.next hb
      have CZ := chkC_zeroB hCC.out.symm
      have HR9 : Hid (R = (sumB (ms.map Mz.q) len1 + 7) / 8) := hR
      have hR8 : R ≤ 8 := by have := CZ.2.2.2; rw [HL.out] at this; omega
      have RW : Hid (w7.heap[pa]? = some (.cells ((pk (ms.map Mz.q) (valI I) R len1).map (Value.int .u8)).toArray 5 (0, 0))) := hrow
      have SZ := size_O a1 g off len1 cap1 (by rw [← HL.out]; exact HAD.out) (ms.map Mz.q) w7 (by simp [HL.out]) (by rw [← HL.out]; exact CZ.1) ((HM.out.next B7.out).o CZ.2.2.1) (by rw [← HL.out]; exact CZ.2.2.2)
      rw [← hR] at SZ
      have hR8i : ¬ ((8 : Int) < (R : Int)) := by omega
      clear PK hb hrow hR CZ B6 D6 X6
      go_wp2_with fail
      refine SZ.mono ?_
      rintro e w8 ⟨rfl, hb⟩
      have B8 : Hid (Below w.heap.size w w8) := Below.andThen B7.out hb
      have D8 : Hid (DicB w8 P M lst I) := D7.out.next hb
      have RW8 : Hid (w8.heap[pa]? = some (.cells ((pk (ms.map Mz.q) (valI I) R len1).map (Value.int .u8)).toArray 5 (0, 0))) := blk11 hb RW.out
      have X8 : Hid (DicA w8 P2 M2 cg J) := X7.out.next hb
      clear SZ hb B7 D7 X7 RW
      obtain ⟨l8, x1, x2, x3, x4⟩ := X8.out
      have BU := back_un (lst' := l8) (J := J) (by rw [← hII.out]; exact D8.out.i) HC0.out (by rw [← hII.out]; exact SJ.out) ms hCC.out.symm hCD.out.symm R (by rw [HL.out]; exact HR9.out)
      rw [← hII.out, HL.out] at BU
      have C8 : Hid (chkC l8 false ms = 0) := chkC_same D8.out.i x3 SJ.out hCD.out.symm
      have WR := wr_any P2 M2 cg l8 J a1 g off cap1 ms HAD.out w8 x1 x2 x3 (HM.out.next B8.out) HI.out C8.out (some ⟨pa, 0, none⟩) R R _ (row_own (pk_len _ _ _ _) BU.1 RW8.out) (by omega) x4 CG.out.1 (by have := CG.out.2; omega) NE.out.1 BU.2.1
      rw [BU.2.2, HL.out] at WR
      clear x1 x2 x3 x4
      go_wp2_with fail
      refine WR.mono ?_
      rintro e w9 ⟨rfl, ⟨cg9, hx9⟩, hk9⟩
      have N9 : Hid (Below w.heap.size w w9) := Kp.below B8.out hk9 B8.out.size GE.out
      have D9 : Hid (DicB w9 P M lst I) := D8.out.kp X8.out hk9 NE.out.2.1 NE.out.2.2.1 NE.out.2.2.2.1 NE.out.2.2.2.2
      obtain ⟨ROW, hROW⟩ : ∃ ROW, Hid (ROW = (ms.map Mz.q).map fun x => (x.i, x.s, valI I x.i x.s)) := ⟨_, rfl⟩
      rw [← hROW.out] at hx9
      obtain ⟨l9, y1, y2, y3, y4⟩ := hx9
      have Y1 : Hid (w9.heap[P2]? = some (.cells #[.map (some M2), .int .i64 cg9] 58 (0, 0))) := y1
      have Y2 : Hid (IsM w9 M2 l9) := y2
      have Y3 : Hid (ItD w9 l9 (putA J ROW)) := y3
      have FIN : Hid (∀ x ∈ ms, cfD lst true x = 0 ∧ cfD l9 true x = 0 ∧ valI (putA J ROW) x.i x.s = valI I x.i x.s ∧ mayK lst I x.i x.s (valI I x.i x.s) = 0) := fun x hx => by
        have k1 := (chkC_zeroB hCC.out.symm).2.1 x hx
        have k2 := (chkC_zeroB hCD.out.symm).2.1 x hx
        have bv := back_val (by rw [← hII.out]; exact D8.out.i) HC0.out k1 k2
        rw [← hII.out] at bv
        refine ⟨k1, (cfD_cfI y3 true x).2 (by rw [(SJ.out.puts ROW).cf]; exact (cfD_cfI D8.out.i true x).1 k1), ?_, bv.2.2.2.2.1.k lst⟩
        refine putA_val I x.i x.s _ bv.2.2.2.2.2 ROW J SJ.out (fun r hr e1 e2 => ?_) (.inr ?_)
        · rw [hROW.out] at hr
          obtain ⟨y, _, rfl⟩ := List.mem_map.1 hr
          dsimp only at e1 e2 ⊢
          rw [e1, e2]
        · rw [hROW.out]
          exact ⟨(x.q.i, x.q.s, valI I x.q.i x.q.s), List.mem_map.2 ⟨x.q, List.mem_map.2 ⟨x, hx, rfl⟩, rfl⟩, rfl, rfl⟩
      have HGD : Hid (∀ W, Below w9.heap.size w9 W → ∀ x ∈ ms, Calls Tryd.prog 12 #[.pointer (some ⟨P, 0, none⟩), plV x.i x.s] W fun e w' => (∃ a' cap', e = .returned (.tuple #[.slice a' ((x.b.toNat + 7) / 8) cap', .bool true]) ∧ Told W w' a' ((x.b.toNat + 7) / 8) cap' (valI I x.i x.s)) ∧ Below W.heap.size W w') := fun W hB x hx => get_va (D9.out.i.ok.next hB) (FIN.out x hx).1 P M 0 (blk11 hB D9.out.h) (D9.out.m.next hB)
      have HGX : Hid (∀ W, Below w9.heap.size w9 W → ∀ x ∈ ms, Calls Tryd.prog 12 #[.pointer (some ⟨P2, 0, none⟩), plV x.i x.s] W fun e w' => (∃ a' cap', e = .returned (.tuple #[.slice a' ((x.b.toNat + 7) / 8) cap', .bool true]) ∧ Told W w' a' ((x.b.toNat + 7) / 8) cap' (valI I x.i x.s)) ∧ Below W.heap.size W w') := fun W hB x hx => by
        have := get_va (Y3.out.ok.next hB) (FIN.out x hx).2.1 P2 M2 cg9 (blk11 hB Y1.out) (Y2.out.next hB)
        rw [(FIN.out x hx).2.2.1] at this
        exact this
      have HMY : Hid (∀ W, Below w9.heap.size w9 W → ∀ x ∈ ms, ∀ a n c, SlOk W a n c (valI I x.i x.s) → Calls Tryd.prog 13 #[.pointer (some ⟨P, 0, none⟩), plV x.i x.s, .slice a n c] W fun e w' => ∃ g, e = .returned (.tuple #[.int .u8 g, .int .u32 0]) ∧ Below W.heap.size W w') := fun W hB x hx a n c hs => by
        have := may_dic P M 0 lst I x.i x.s a n c (valI I x.i x.s) W (blk11 hB D9.out.h) (D9.out.m.next hB) (D9.out.i.next hB) hs (tab_next D9.out.t hB)
        rw [(FIN.out x hx).2.2.2] at this
        exact this
      have MZ9 : Hid (MzAt w9 g off ms) := HM.out.next N9.out
      clear WR hk9 y1 y2 y3 y4 BU C8 RW8 B8 D8 X8 CG SJ hCC hCD
      go_wp2_with fail
      go_loopw [15] (fun iv wr => ∃ k : Nat, k ≤ len1 ∧ iv = .int .i64 (k : Int) ∧ Hid (Below w9.heap.size w9 wr)) (fun iv _ => len1 - (intOf iv).toNat)
      case atStart => exact ⟨0, Nat.zero_le _, rfl, Below.refl _ _⟩
      case round =>
        obtain ⟨j, hj, rfl, BR⟩ := hrel
        by_cases hjN : j < len1
        · obtain rfl := HAD.out (by have := HL.out; omega)
          have gj : (j : Int) < (len1 : Int) := by omega
          have gj0 : (0 : Int) ≤ (j : Int) := by omega
          obtain ⟨x, hx⟩ : ∃ x, ms[j]? = some x := ⟨_, List.getElem?_eq_getElem (by have := HL.out; omega)⟩
          have HX : Hid (x ∈ ms) := List.mem_of_getElem? hx
          have CX : Hid (∀ W, Below w9.heap.size w9 W → W.cell? ⟨g, off + j * 3, none⟩ = some (.int .u16 x.i) ∧ W.cell? ⟨g, off + j * 3 + 1, none⟩ = some (.int .u8 x.s)) := fun W hW => ⟨((MZ9.out.next hW) j x hx).1, ((MZ9.out.next hW) j x hx).2.1⟩
          obtain ⟨c0, c1⟩ := CX.out wr BR.out
          have GD := HGD.out wr BR.out x HX.out
          obtain ⟨n, hn9⟩ : ∃ n, Hid (n = (x.b.toNat + 7) / 8) := ⟨_, rfl⟩
          rw [← hn9.out] at GD
          have wj : IntKind.i64.wrap ((j : Int) + 1) = ((j + 1 : Nat) : Int) := by rw [IntKind.wrap_i64]; omega
          clear hx
          go_wp2_with fail
          refine GD.mono ?_
          rintro e w10 ⟨⟨va, vc, rfl, ht⟩, hb⟩
          have B10 : Hid (Below w9.heap.size w9 w10) := Below.andThen BR.out hb
          have T10 : Hid (SlOk w10 va n vc (valI I x.i x.s)) := ht.sl
          have GX := HGX.out w10 B10.out x HX.out
          rw [← hn9.out] at GX
          obtain ⟨d0, d1⟩ := CX.out w10 B10.out
          clear GD hb ht c0 c1
          go_wp2_with fail
          refine GX.mono ?_
          rintro e w11 ⟨⟨ya, yc, rfl, ht⟩, hb⟩
          have B11 : Hid (Below w9.heap.size w9 w11) := Below.andThen B10.out hb
          have T11 : Hid (SlOk w11 va n vc (valI I x.i x.s)) := T10.out.next hb
          have U11 : Hid (SlOk w11 ya n yc (valI I x.i x.s)) := ht.sl
          obtain ⟨c0, c1⟩ := CX.out w11 B11.out
          have MY := HMY.out w11 B11.out x HX.out va n vc T11.out
          clear GX hb ht d0 d1
          go_wp2_with fail
          refine MY.mono ?_
          rintro e w12 ⟨tg, rfl, hb⟩
          have B12 : Hid (Below w9.heap.size w9 w12) := Below.andThen B11.out hb
          have s1 := (T11.out.next hb).row.str vc
          have s2 := (U11.out.next hb).row.str yc
          obtain ⟨st, hst⟩ : ∃ st, Hid (st = strOfNums (valI I x.i x.s)) := ⟨_, rfl⟩
          rw [← hst.out] at s1 s2
          clear MY hb c0 c1
          go_wp2_with fail
          exact ⟨⟨j + 1, by omega, by go_num, B12.out⟩, by simp [intOf]; omega⟩
        · obtain rfl : j = len1 := by omega
          have B12 : Hid (Below w.heap.size w wr) := Below.andThen N9.out BR.out
          go_wp2_with fail
          refine (HWK.out _ B12.out).mono ?_
          rintro e w13 ⟨rfl, hb⟩
          go_wp2_with fail
          go_ret
          exact ⟨rfl, hb⟩
#print axioms mappingBack_any
end Go.Proofs.YtcdmldnaagiicaaDoor
namespace Go.Proofs.YtcdmldnaagiicaaDoor
open Go.ChangeShapes Go.WideShapes Go.ChangeAt Go.RowKit
open Go.ChangeMaps (open_string shut_string)

namespace mappingBack
theorem laid_met (os : Os) : laidMet Tryd.prog Rows.mappingBackRow.laid (({ World.holding Tryd.prog os ⟨#[], #[], []⟩ with heap := (World.holding Tryd.prog os ⟨#[], #[], []⟩).heap.modify 1 (put (Lib.deBruijn64tab.map fun n : Nat => Value.int .u8 (n : Int)).toArray) } : World).forCall (fun _ _ => 0) ⟨#[], #[.slice none 0 0, .slice none 0 0, .slice none 0 0], []⟩).memory :=
  laidMet_of_run' 8 (by kernel_rfl) (by kernel_rfl)
theorem reads (os : Os) {H : Type} (enc : TypeId × Value → H) : ∃ places, DataW.whole enc Tryd.prog (({ World.holding Tryd.prog os ⟨#[], #[], []⟩ with heap := (World.holding Tryd.prog os ⟨#[], #[], []⟩).heap.modify 1 (put (Lib.deBruijn64tab.map fun n : Nat => Value.int .u8 (n : Int)).toArray) } : World).forCall (fun _ _ => 0) ⟨#[], #[.slice none 0 0, .slice none 0 0, .slice none 0 0], []⟩).memory Tryd.f3.params.toList Rows.mappingBackSpec.vars false (#[.slice none 0 0, .slice none 0 0, .slice none 0 0] : Array Value).toList 8 = some ([.nil, .nil, .nil], [], places) :=
  ⟨[], by kernel_rfl⟩

set_option maxRecDepth 100000 in
theorem contract (H : Type) (enc : TypeId × Value → H) (W : World) (base : Nat) (args : Array Value) (ds gs : List (DataW H)) (before : List MemPlace)
    (hval : ∀ (j : Nat) t v, Tryd.f3.params[j]? = some t → args[j]? = some v → Value.okWide Tryd.prog W .any base t v)
    (hW : DataW.Whole enc Tryd.prog Tryd.f3.params.toList Rows.mappingBackSpec.vars false W args.toList ds gs before) (hL : laidMetH Tryd.prog Rows.mappingBackRow.laid W) (hsz : ∀ (j : Nat) (t : TypeId) (d : DataW H), Tryd.f3.params.toList[j]? = some t → ds[j]? = some d → ∀ n ∈ d.weights Tryd.prog t, n ≤ reachBytes) :
    Calls Tryd.prog 3 args W fun e W' => ∃ v, e = .returned v ∧ Rows.mappingBackSpec.post enc Tryd.prog Tryd.f3 false true false false W args v W' := by
  have hW' := hW
  obtain ⟨p, q, hA0, hV, rfl, hfz, hnd⟩ := hW
  have hA : DataW.TrodAll enc Tryd.prog W 0 (fun _ => true) true Tryd.f3.params.toList args.toList ds p := hA0
  rw [Tryd.params3] at hA hval hsz
  obtain ⟨v0, vs0, d0, ds0, p0, q0, hargs, rfl, rfl, h0, r0⟩ := trodAll_cons hA
  obtain ⟨v1, vs1, d1, ds1, p1, q1, rfl, rfl, rfl, h1, r1⟩ := trodAll_cons r0
  obtain ⟨v2, vs2, d2, ds2, p2, q2, rfl, rfl, rfl, h2, r2⟩ := trodAll_cons r1
  obtain ⟨rfl, rfl, rfl⟩ := trodAll_nil r2
  obtain rfl : args = #[v0, v1, v2] := by cases args; simp_all
  obtain ⟨rfl, rfl⟩ := trodVars_none hV
  have k0 := h0
  have lt0 : ∀ x ∈ p0, x.block < W.heap.size := by obtain ⟨m, hm⟩ := k0; exact DataW.trod_lt m _ _ _ hm
  obtain ⟨a0, len0, cap0, rfl⟩ := okWide_slice Tryd.underlying22 (hval 0 22 v0 rfl rfl)
  obtain ⟨l0, o0, lc0⟩ : ∃ l, IsEn W a0 len0 l ∧ len0 ≤ maxLen := by
    obtain ⟨fuel, hf⟩ := h0
    obtain ⟨a', len', cap', l, e, ho, hc, hm⟩ := open_en (v := .slice a0 len0 cap0) hf (hsz 0 22 _ rfl rfl)
    cases e
    exact ⟨l, ho, Nat.le_trans hc hm⟩
  have k1 := h1
  have lt1 : ∀ x ∈ p1, x.block < W.heap.size := by obtain ⟨m, hm⟩ := k1; exact DataW.trod_lt m _ _ _ hm
  obtain ⟨a1, len1, cap1, rfl⟩ := okWide_slice Tryd.underlying23 (hval 1 23 v1 rfl rfl)
  obtain ⟨l1, o1⟩ : ∃ l, IsMz W a1 len1 l := by
    obtain ⟨fuel, hf⟩ := h1
    obtain ⟨a', len', cap', l, e, ho, hc, hm⟩ := open_mz (v := .slice a1 len1 cap1) hf
    cases e
    exact ⟨l, ho⟩
  have k2 := h2
  have lt2 : ∀ x ∈ p2, x.block < W.heap.size := by obtain ⟨m, hm⟩ := k2; exact DataW.trod_lt m _ _ _ hm
  obtain ⟨a2, len2, cap2, rfl⟩ := okWide_slice Tryd.underlying24 (hval 2 24 v2 rfl rfl)
  obtain ⟨l2, o2⟩ : ∃ l, IsVz W a2 len2 l := by
    obtain ⟨fuel, hf⟩ := h2
    obtain ⟨a', len', cap', l, e, ho, hc, hm⟩ := open_vz (v := .slice a2 len2 cap2) hf (hsz 2 24 _ rfl rfl)
    cases e
    exact ⟨l, ho⟩
  clear hA0
  refine (mappingBack_any o0 cap0 lc0 o1 cap1 o2 cap2 (tab10 hL)).mono fun e W' ⟨he, bel⟩ => ?_
  subst he
  exact ⟨_, rfl, _, _, _, [], _, [], hW', trodAll_mk1 (shut_bool Tryd.underlying4 _), (trodAll_cons_mk (Below.trod laidOut (by kernel_rfl) (of_decide_eq_true (by kernel_rfl)) k0 bel lt0) (trodAll_cons_mk (Below.trod laidOut (by kernel_rfl) (of_decide_eq_true (by kernel_rfl)) k1 bel lt1) (trodAll_cons_mk (Below.trod laidOut (by kernel_rfl) (of_decide_eq_true (by kernel_rfl)) k2 bel lt2) trodAll_mk0))), rfl, bel.frame _, fun h => by cases h⟩

set_option maxRecDepth 100000 in
theorem lifted (os : Os) (started : os.Started) (H : Type) (enc : TypeId × Value → H) (F : Stop.Interp) :
    ReturnsInHanded {} Tryd.checked os 3 .any ((OpenSpec.ofChange Rows.mappingBackSpec).preRow enc Tryd.prog Tryd.f3 Rows.mappingBackRow.domain false Rows.mappingBackRow.laid) (((OpenSpec.ofChange Rows.mappingBackSpec).at F).post enc Tryd.prog Tryd.f3 false true false false) := by
  obtain ⟨places, hx⟩ := reads os enc
  refine returnsInHanded_of_row (C := Tryd.checked) (s := OpenSpec.ofChange Rows.mappingBackSpec) own started (by kernel_rfl) Tryd.func3
    (witness_row_at (enc := enc) (C := Tryd.checked) false ({ World.holding Tryd.prog os ⟨#[], #[], []⟩ with heap := (World.holding Tryd.prog os ⟨#[], #[], []⟩).heap.modify 1 (put (Lib.deBruijn64tab.map fun n : Nat => Value.int .u8 (n : Int)).toArray) } : World) #[.slice none 0 0, .slice none 0 0, .slice none 0 0] rfl (by kernel_rfl) (by kernel_rfl) (by kernel_rfl)
      (OpenSpec.preRow_of_cond 8 hx (by kernel_rfl) (fun k hk => by cases hk) (by kernel_rfl) (laid_met os))) ?_
  intro W base args ds gs before hval hW _ _ hsz hL _ _
  exact contract H enc W base args ds gs before hval hW hL (sized_of hsz)

theorem said : Rows.MappingBackSaid :=
  OpenClaim.holds_of_cond 3 Tryd.f3 rfl rfl rfl rfl rfl rfl rfl ⟨rfl, rfl, rfl, rfl, rfl⟩ rfl rfl rfl rfl rfl (by kernel_rfl) Tryd.func3 (by kernel_rfl)
    (of_decide_eq_true (by kernel_rfl)) (by unfold Func.isWrapper; first | (rw [if_pos (by decide +kernel)]; kernel_rfl) | (rw [if_neg (by decide +kernel)]; exact ⟨rfl, rfl⟩))
    (fun os started H enc _ F => by rw [OpenClaim.pre_eq_preRow]; exact lifted os started H enc F)

theorem plain (f : FuncId) (fn : Func) (hf : Tryd.pinned.checked.prog.funcNamed "campanile/campanilelaw12.MappingBack" = some f) (hfn : Tryd.pinned.checked.prog.funcs[f]? = some fn) :
    false = Tryd.pinned.checked.prog.looks [] ∧ ∀ (j : Nat) t, fn.params[j]? = some t → Tryd.pinned.checked.prog.wantsStandIn t = false := by
  obtain rfl : f = 3 := Option.some.inj ((show Tryd.prog.funcNamed "campanile/campanilelaw12.MappingBack" = some 3 by kernel_rfl).symm.trans hf) |>.symm
  obtain rfl : fn = Tryd.f3 := (Option.some.inj (Tryd.func3.symm.trans hfn)).symm
  refine ⟨by kernel_rfl, fun j t ht => ?_⟩
  rw [Tryd.params3] at ht
  have hm := Array.mem_of_getElem? ht
  simp at hm
  rcases hm with rfl | rfl | rfl
  · exact (show Tryd.prog.wantsStandIn 22 = false by kernel_rfl)
  · exact (show Tryd.prog.wantsStandIn 23 = false by kernel_rfl)
  · exact (show Tryd.prog.wantsStandIn 24 = false by kernel_rfl)
end mappingBack

/-- MappingBack, the tied card. -/
theorem mappingBack_holds : Rows.MappingBackCardSaid :=
  Claim7.holds_tied_plain_at .later [] _ _ _ _ mappingBack.said (fun _ h => by cases h) (by kernel_rfl) (fun _ h => by cases h) mappingBack_row_tie rfl ⟨rfl, rfl⟩ (by kernel_rfl) rfl mappingBack.plain (by kernel_rfl)
#print axioms mappingBack_holds
end Go.Proofs.YtcdmldnaagiicaaDoor
