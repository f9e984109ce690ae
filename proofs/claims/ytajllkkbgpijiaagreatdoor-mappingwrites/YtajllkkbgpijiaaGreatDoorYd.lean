/-
  The document's dictionary as it stands: May of a place that may be written.
  The document's put and Write of a place that may be written.
  Rows of the document's values.
  The document's Unpack of Maps that may be.
  Of two dictionaries of the same entries, or of none: both unpack the same.
  mapping.Write and the document's Write, of what both unpack.
  The law's same, of dictionaries as they stand.
  Both Writes, one behind the other, and what stands behind them.
  MappingWrites: returns true of any entries, any Maps and any bytes.
  Proved: MappingWrites returns true of any entries, any Maps and any bytes, where the library's table holds what the program's text lays (the tied card).
-/
import Derived.Test.YtajllkkbgpijiaaGreatDoorXk
import Derived.Test.YtajllkkbgpijiaaGreatDoorTk9
import Derived.Test.YtajllkkbgpijiaaGreatDoorIg
import Derived.Test.YtajllkkbgpijiaaGreatDoorGa
import Derived.BigQuiet
import Derived.Test.YtajllkkbgpijiaaGreatDoorLq
import Derived.WalkKit
import Derived.ProofKit
import Derived.OpenShut
import Derived.Deep.DeepHandedRow
import Derived.MakeChecks
import Derived.Stop.LaidErr
import Derived.ChangeOld
import Derived.ShutString
namespace Go.Proofs.YtajllkkbgpijiaaGreatDoor
open Go.RowKit

/-- An item of the document's as it stands. -/
def XiOk (W : World) (r : Option Nat) (x : Xi) (y : It) : Prop :=
  (y.t = x.t ∧ y.rt = x.rt) ∧ (SlOk W x.l x.ll x.cl y.zl ∧ SlOk W x.h x.lh x.ch y.zh ∧ SlOk W x.v x.lv x.cv y.zv ∧ x.lv ≤ 16777216) ∧ OffB r x.l x.ll ∧ OffB r x.h x.lh ∧ OffB r x.v x.lv
/-- The document's dictionary as it stands. -/
structure DocI (W : World) (q : Nat) (v : Value) (xs : List Xi) (nn : Int) (I : Int → Int → Option It) : Prop where
  hq : W.heap[q]? = some (.cells #[v, .int .i64 nn] 84 (0, 0))
  hx : ∃ b, IsX W b v xs
  hl : xs.length ≤ 1024
  ok : ∀ x ∈ xs, ∃ y, I x.i x.s = some y ∧ XiOk W v.ownBlock x y
  al : ∀ i s y, I i s = some y → ∃ x ∈ xs, x.i = i ∧ x.s = s
  un : ∀ (j k : Nat) (x y : Xi), xs[j]? = some x → xs[k]? = some y → x.i = y.i → x.s = y.s → j = k
theorem DocI.next {W W' : World} {q : Nat} {v : Value} {xs : List Xi} {nn : Int} {I : Int → Int → Option It} (h : DocI W q v xs nn I) (hb : Below W.heap.size W W') : DocI W' q v xs nn I := by
  obtain ⟨b, hx⟩ := h.hx
  refine ⟨blk11 hb h.hq, ⟨b, hx.next hb⟩, h.hl, fun x hx => ?_, h.al, h.un⟩
  obtain ⟨y, h1, h2, ⟨h3, h4, h5, h6⟩, h7⟩ := h.ok x hx
  exact ⟨y, h1, h2, ⟨h3.next hb, h4.next hb, h5.next hb, h6⟩, h7⟩
theorem itE_key : ∀ (es : List Em) (i s : Int) (x : It), itE es i s = some x → ∃ e ∈ es, e.i = i ∧ e.s = s ∧ x = ⟨e.t, e.rt, e.tg, e.zl, e.zh, firstL e.t e.zd⟩
  | [], _, _, _, h => by cases h
  | e :: es, i, s, x, h => by
    simp only [itE] at h
    split at h
    · rename_i hc
      obtain ⟨h1, h2⟩ : i = e.i ∧ s = e.s := by simpa using hc
      cases h
      exact ⟨e, List.mem_cons_self, h1.symm, h2.symm, rfl⟩
    · obtain ⟨e', he, hx⟩ := itE_key es i s x h
      exact ⟨e', List.mem_cons_of_mem _ he, hx⟩
theorem itE_has : ∀ (es : List Em) (e : Em), e ∈ es → ∃ x, itE es e.i e.s = some x
  | [], _, h => by cases h
  | e :: es, f, h => by
    simp only [itE]
    split
    · exact ⟨_, rfl⟩
    · rename_i hc
      rcases List.mem_cons.1 h with rfl | h
      · exact absurd (by simp) hc
      · exact itE_has es f h
theorem docI_of_both {es : List Em} {W : World} {p m : Nat} {lst : Mp} {q : Nat} {v : Value} {xs : List Xi} (h : BothD es W p m lst q v xs) : DocI W q v xs 0 (itE es) := by
  have each : ∀ (j : Nat) (x : Xi), xs[j]? = some x → ∃ e n a c, e ∈ es ∧ (docG [] es).2[j]? = some e ∧ x = ofE e a n c ∧ SlOk W a n c (firstL e.t e.zd) := fun j x hj => by
    obtain ⟨hl, he⟩ := List.getElem?_eq_some_iff.1 hj
    obtain ⟨e2, he2⟩ : ∃ e2, (docG [] es).2[j]? = some e2 := ⟨_, List.getElem?_eq_getElem (by rw [← h.hd.1]; exact hl)⟩
    obtain ⟨a, n, c, g1, g2⟩ := h.hd.2 j e2 he2
    rw [hj] at g1
    cases g1
    exact ⟨e2, n, a, c, (h.hi e2).1 (List.mem_of_getElem? he2), he2, rfl, g2⟩
  refine ⟨h.hq, h.hx, by have := h.hl; have := h.hn; omega, fun x hx => ?_, fun i s y hy => ?_, fun j k x y hj hk h1 h2 => ?_⟩
  · obtain ⟨j, hj, hjx⟩ := List.getElem_of_mem hx
    obtain ⟨e, n, a, c, he, hS, rfl, hv⟩ := each j x (by rw [List.getElem?_eq_getElem hj, hjx])
    obtain ⟨y, hy⟩ := itE_has es e he
    obtain ⟨e', he', k1, k2, rfl⟩ := itE_key es _ _ y hy
    have : e' = e := sort_one h.hs ((h.hi e').2 he') ((h.hi e).2 he) k1 k2
    subst this
    obtain ⟨hin, o1, o2, o3⟩ := h.hg e' he
    refine ⟨_, hy, ⟨rfl, rfl⟩, ⟨hin.rl, hin.rh, hv, ?_⟩, o2, o3, h.hf _ hx⟩
    show n ≤ _
    rw [← hv.row.size]
    have hz := h.hz e' he
    unfold firstL
    split
    · exact hz
    · have := Ty.Pl.size_bd e'.t
      unfold Ty.zeros
      rw [List.length_replicate]
      omega
  · obtain ⟨e, he, k1, k2, rfl⟩ := itE_key es i s y hy
    obtain ⟨k, hk, hke⟩ := List.getElem_of_mem ((h.hi e).2 he)
    obtain ⟨xv, xn, xc, hxk, hxv⟩ := h.hd.2 k e (by rw [List.getElem?_eq_getElem hk, hke])
    exact ⟨_, List.mem_of_getElem? hxk, k1, k2⟩
  · obtain ⟨e, n, a, c, he, hS, rfl, -⟩ := each j x hj
    obtain ⟨f, n2, a2, c2, hf, hS2, rfl, -⟩ := each k y hk
    obtain ⟨l1, g1⟩ := List.getElem?_eq_some_iff.1 hS
    obtain ⟨l2, g2⟩ := List.getElem?_eq_some_iff.1 hS2
    have h1 : e.i = f.i := h1
    have h2 : e.s = f.s := h2
    rcases Nat.lt_trichotomy j k with q | q | q
    · have := List.pairwise_iff_getElem.1 h.hs j k l1 l2 q
      rw [g1, g2, befE_iff] at this
      omega
    · exact q
    · have := List.pairwise_iff_getElem.1 h.hs k j l2 l1 q
      rw [g1, g2, befE_iff] at this
      omega

/-- Where a place stands. -/
theorem DocI.at_ {w : World} {q : Nat} {v : Value} {xs : List Xi} {nn : Int} {I : Int → Int → Option It} (h : DocI w q v xs nn I) {i s : Int} {y : It} (hI : I i s = some y) : ∃ (j : Nat) (x : Xi), xs[j]? = some x ∧ x.i = i ∧ x.s = s ∧ XiOk w v.ownBlock x y ∧ ∀ W, Below w.heap.size w W → Calls Tryz.prog 52 #[.pointer (some ⟨q, 0, none⟩), plV i s] W fun e w' => e = .returned (.tuple #[.int .i64 (j : Int), .int .u32 0]) ∧ Below W.heap.size W w' := by
  obtain ⟨x0, hx0, e1, e2⟩ := h.al i s y hI
  have hit := atX_hit i s xs 0 100794368 ⟨x0, hx0, e1, e2⟩
  obtain ⟨j, x, h1, h2, h3, h4⟩ := atX_found i s xs 0 100794368 (by decide) hit
  obtain ⟨y', hy', ok⟩ := h.ok x (List.mem_of_getElem? h2)
  rw [h3, h4, hI] at hy'
  cases hy'
  refine ⟨j, x, h2, h3, h4, ok, fun W hW => ?_⟩
  obtain ⟨bs, hx⟩ := (h.next hW).hx
  have := at_any q v nn xs bs i s W (h.next hW).hq hx (by have := h.hl; omega)
  rw [hit, h1, Nat.zero_add] at this
  exact this
set_option linter.unusedSimpArgs false in
set_option maxHeartbeats 4000000 in
set_option maxRecDepth 100000 in
theorem rmay_I (q : Nat) (v : Value) (xs : List Xi) (nn : Int) (I : Int → Int → Option It) (i s : Int) (y : It) (b : Option Addr) (lb cb : Nat) (zb : List Int) (w : World) (h : DocI w q v xs nn I) (hI : I i s = some y) (hr : (bits .and .u8 y.rt 2 != 0) = true) (rb : SlOk w b lb cb zb) :
    Calls Tryz.prog 30 #[.pointer (some ⟨q, 0, none⟩), plV i s, .slice b lb cb] w fun e w' => ∃ tg, e = .returned (.tuple #[.int .u8 tg, .int .u32 (Ty.chkN y.t zb y.zl y.zh)]) ∧ Below w.heap.size w w' := by
  obtain ⟨j, x, h2, h3, h4, ok, hat⟩ := h.at_ hI
  obtain ⟨c, hc⟩ : ∃ c, Hid (c = Ty.chkN y.t zb y.zl y.zh) := ⟨_, rfl⟩
  rw [← hc.out]
  have HC : Hid (∀ W, Below w.heap.size w W → Calls Tryz.prog 53 #[.int .u8 x.t, .slice b lb cb, .slice x.l x.ll x.cl, .slice x.h x.lh x.ch] W fun e w' => e = .returned (.int .u32 c) ∧ Below W.heap.size W w') := fun W hW => by
    have := chk8 x.t b x.l x.h lb cb x.ll x.cl x.lh x.ch zb y.zl y.zh W (rb.next hW) (ok.2.1.1.next hW) (ok.2.1.2.1.next hW)
    rw [hc.out, ok.1.1]
    exact this
  have hr2 : (bits .and .u8 x.rt 2 == 0) = false := by rw [← ok.1.2]; simpa using hr
  have HAT : Hid (∀ W, Below w.heap.size w W → Calls Tryz.prog 52 #[.pointer (some ⟨q, 0, none⟩), plV i s] W fun e w' => e = .returned (.tuple #[.int .i64 (j : Int), .int .u32 0]) ∧ Below W.heap.size W w') := hat
  obtain ⟨bs, hx⟩ := h.hx
  obtain ⟨vA, vC, rfl, hva⟩ := hx.form2
  have hj : j < xs.length := (List.getElem?_eq_some_iff.1 h2).1
  obtain ⟨g, rfl⟩ := hva (by omega)
  have HX : Hid (IsX w bs (.slice (some ⟨g, 0, none⟩) xs.length vC) xs) := hx
  have HQ : Hid (w.heap[q]? = some (.cells #[.slice (some ⟨g, 0, none⟩) xs.length vC, .int .i64 nn] 84 (0, 0))) := h.hq
  have LDF : Hid (∀ W, Below w.heap.size w W → (loadVar 52 ⟨g, j * 11, none⟩).run Tryz.prog W = .ok (.agg (enC x.i x.s x.nm x.t x.rt x.d x.ld x.cd x.l x.ll x.cl x.h x.lh x.ch x.tg x.gr)) W) := fun W hW => (HX.out.next hW).entry j x h2
  have gj : (j : Int) < (xs.length : Int) := by omega
  have gj0 : (0 : Int) ≤ (j : Int) := by omega
  obtain ⟨NX, HNX⟩ : ∃ NX, Hid (NX = xs.length) := ⟨_, rfl⟩
  rw [← HNX.out] at HQ gj
  obtain ⟨xi, xs9, xnm, xt, xrt, xd, xld, xcd, xl, xll, xcl, xh, xlh, xch, xtg, xgr, xv, xlv, xcv⟩ := x
  dsimp only at LDF HC hr2
  clear hc h hI hr rb hat hx hva hj h2 h3 h4 ok HX
  go_enter Tryz.func30, Tryz.ntmps30
  go_wp2_with fail
  refine (HAT.out _ (by repeat (first | exact Below.refl _ _ | apply Below.drew | apply Below.al))).mono ?_
  rintro e w1 ⟨rfl, hb⟩
  have B1 : Hid (Below w.heap.size w w1) := Below.andThen (by repeat (first | exact Below.refl _ _ | apply Below.drew | apply Below.al)) hb
  have cq : w1.cell? ⟨q, 0, none⟩ = some (.slice (some ⟨g, 0, none⟩) NX vC) := by rw [cell_of_row _ _ 0 _ _ _ (blk11 B1.out HQ.out)]; rfl
  have LD := LDF.out _ B1.out
  clear hb HAT LDF
  go_wp2_with (refine wpList_load_by rfl 52 (.tmp 26) rfl _ _ rfl LD ?_)
  refine (HC.out _ (Below.al B1.out _)).mono ?_
  rintro e w2 ⟨rfl, hb⟩
  have B2 : Hid (Below w.heap.size w w2) := Below.andThen (Below.al B1.out _) hb
  have X2 : Hid (w2.heap[w1.heap.size]? = some (.cells (enC xi xs9 xnm xt xrt xd xld xcd xl xll xcl xh xlh xch xtg xgr) 52 (0, 0))) := blk11 hb (at11 _ _ _ rfl)
  have c8 : w2.cell? ⟨w1.heap.size, 8, none⟩ = some (.int .u8 xtg) := by rw [cell_of_row _ _ 8 _ _ _ X2.out]; rfl
  clear hb HC cq LD
  by_cases hc0 : c = 0
  · subst hc0
    go_wp2_with fail
    go_ret2
    exact ⟨_, rfl, B2.out⟩
  · go_wp2_with fail
    go_ret2
    exact ⟨_, rfl, B2.out⟩
#print axioms docI_of_both
#print axioms rmay_I
end Go.Proofs.YtajllkkbgpijiaaGreatDoor
namespace Go.Proofs.YtajllkkbgpijiaaGreatDoor
open Go.RowKit

theorem loadX11 (w : World) (B : Nat) (x : Xi) {T : TypeId} (h : w.heap[B]? = some (.cells x.A T (0, 0))) : (loadVar 86 ⟨B, 0, none⟩).run Tryz.prog w = .ok (.agg x.A) w := by
  have := load_part 86 11 sizeX aggX w B 0 x.L T h (by simp [Xi.L_len])
  rw [this]
  rfl
theorem flx_set (l : List Xi) (j : Nat) (y : Xi) (hj : j < l.length) : flx (l.set j y) = (flx l).take (j * 11) ++ y.L ++ (flx l).drop (j * 11 + 11) := by
  have e : l = l.take j ++ (l[j] :: l.drop (j + 1)) := by rw [List.getElem_cons_drop, List.take_append_drop]
  have e2 : flx l = flx (l.take j) ++ (l[j].L ++ flx (l.drop (j + 1))) := by
    conv => lhs; rw [e]
    rw [flx_app]
    rfl
  have hl : (flx (l.take j)).length = j * 11 := by rw [flx_len, List.length_take]; congr 1; omega
  have t1 : (flx l).take (j * 11) = flx (l.take j) := by rw [e2, List.take_append_of_le_length (by omega), List.take_of_length_le (by omega)]
  have t2 : (flx l).drop (j * 11 + 11) = flx (l.drop (j + 1)) := by
    have e3 : (flx l).drop (j * 11) = l[j].L ++ flx (l.drop (j + 1)) := by rw [e2, List.drop_append_of_le_length (by omega), List.drop_of_length_le (by omega), List.nil_append]
    rw [show (flx l).drop (j * 11 + 11) = ((flx l).drop (j * 11)).drop 11 by rw [List.drop_drop], e3, List.drop_append_of_le_length (by rw [Xi.L_len]; omega), List.drop_of_length_le (by rw [Xi.L_len]; omega), List.nil_append]
  rw [t1, t2, List.set_eq_take_append_cons_drop, if_pos hj, flx_app]
  show _ ++ (y.L ++ flx _) = _
  rw [List.append_assoc]
/-- An item put at its place. -/
theorem IsX.store {w : World} {base g cap : Nat} {l : List Xi} (h : IsX w base (.slice (some ⟨g, 0, none⟩) l.length cap) l) (j : Nat) (y : Xi) (hj : j < l.length) : ∃ C : Array Value, (storeVar 86 ⟨g, j * 11, none⟩ (.agg y.A)).run Tryz.prog w = .ok () (w.setRow g C) ∧ ∀ W : World, W.heap[g]? = w.heap[g]? → (storeVar 86 ⟨g, j * 11, none⟩ (.agg y.A)).run Tryz.prog W = .ok () (W.setRow g C) ∧ IsX (W.setRow g C) base (.slice (some ⟨g, 0, none⟩) l.length cap) (l.set j y) := by
  rcases h.form with ⟨h1, _⟩ | ⟨g', cap', cur, hv, hb, hh, hn, hm, hs, ht⟩
  · cases h1
  · cases hv
    have o1 : ∀ u ∈ y.L, u.oneCell' = true := fun u hu => flx_one_cell [y] u (by rw [flx_one]; exact hu)
    have hL : (flx l).length = l.length * 11 := flx_len l
    have run : ∀ W : World, W.heap[g]? = w.heap[g]? → (storeVar 86 ⟨g, j * 11, none⟩ (.agg y.A)).run Tryz.prog W = .ok () (W.setRow g (cur.toList.take (j * 11) ++ y.L ++ cur.toList.drop (j * 11 + y.L.length)).toArray) := fun W hW => store_part 86 11 sizeX W g (j * 11) cur _ (hW.trans hh) y.L (Xi.L_len y) (by rw [hs]; omega) o1
    refine ⟨_, run w rfl, fun W hW => ⟨run W hW, ?_⟩⟩
    have hcur : cur.toList = flx l ++ cur.toList.drop (l.length * 11) := by rw [← ht, List.take_append_drop]
    have hcl : cur.toList.length = cap * 11 := by rw [← hs]; simp
    have htk : cur.toList.take (j * 11) = (flx l).take (j * 11) := by rw [← ht, List.take_take, Nat.min_eq_left (by omega)]
    refine ⟨?_, .inr ⟨g, cap, _, by rw [List.length_set], hb, setRow_heap _ _ _ _ _ _ (hW.trans hh), by rw [List.length_set]; exact hn, hm, ?_, ?_⟩⟩
    · rw [flx_len]
    · rw [List.size_toArray, List.length_append, List.length_append, List.length_take, List.length_drop, Xi.L_len]
      omega
    · rw [List.toList_toArray, List.length_set, flx_set l j y hj, htk]
      have e1 : ((flx l).take (j * 11) ++ y.L).length = j * 11 + 11 := by rw [List.length_append, List.length_take, Xi.L_len]; omega
      rw [List.take_append, e1, List.take_of_length_le (by rw [e1]; omega)]
      congr 1
      rw [← ht, List.drop_take, Xi.L_len]
/-- Behind put. -/
theorem DocI.put {w w' : World} {q g n c : Nat} {xs : List Xi} {nn : Int} {I : Int → Int → Option It} (h : DocI w q (.slice (some ⟨g, 0, none⟩) n c) xs nn I) {j : Nat} {x : Xi} {y : It} (hj : xs[j]? = some x) (hI : I x.i x.s = some y) {a : Option Addr} {la ca : Nat} {zb : List Int} {nn' : Int} (hk : Kp [q, g] w w') (hs : SlOk w' a la ca zb) (hla : la ≤ 16777216) (ha : OffB (some g) a la)
    (hq : w'.heap[q]? = some (.cells #[.slice (some ⟨g, 0, none⟩) n c, .int .i64 nn'] 84 (0, 0))) (hx : ∃ b, IsX w' b (.slice (some ⟨g, 0, none⟩) n c) (xs.set j { x with v := a, lv := la, cv := ca })) : DocI w' q (.slice (some ⟨g, 0, none⟩) n c) (xs.set j { x with v := a, lv := la, cv := ca }) nn' (putI I x.i x.s zb) := by
  have hjl : j < xs.length := (List.getElem?_eq_some_iff.1 hj).1
  have hqn : ∀ b off i, ∀ z, w.cell? ⟨b, off + i, none⟩ = some (.int .u8 z) → b ≠ q := fun b off i z hc e => by
    subst e
    rw [cell_of_row _ _ _ _ _ _ h.hq] at hc
    rcases (by omega : off + i = 0 ∨ off + i = 1 ∨ 2 ≤ off + i) with q | q | q
    · rw [q] at hc; simp at hc
    · rw [q] at hc; simp at hc
    · rw [Array.getElem?_eq_none (by simpa using q)] at hc; simp at hc
  have keep : ∀ {a : Option Addr} {la ca : Nat} {zs : List Int}, SlOk w a la ca zs → OffB (some g) a la → SlOk w' a la ca zs := fun hs ho => ⟨⟨hs.row.size, hs.row.oct, fun hp => by
    obtain ⟨b, off, e, hc⟩ := hs.row.at_ hp
    refine ⟨b, off, e, fun i hi => ?_⟩
    have c := hc i hi
    have n1 := hqn b off i _ c
    have n2 : g ≠ b := fun e9 => ho hp b off e (by rw [e9])
    rw [World.cell?_of_block (w := w) (hk.block _ (block_lt_of_cell c) (by simp; exact ⟨n1, fun e => n2 e.symm⟩))]
    exact c⟩, hs.le, hs.max⟩
  have get : ∀ (k : Nat) (z : Xi), (xs.set j { x with v := a, lv := la, cv := ca })[k]? = some z → (k = j ∧ z = { x with v := a, lv := la, cv := ca }) ∨ (k ≠ j ∧ xs[k]? = some z) := fun k z hz => by
    by_cases hkj : k = j
    · subst hkj
      rw [List.getElem?_set_self hjl] at hz
      exact .inl ⟨rfl, (Option.some.inj hz).symm⟩
    · rw [List.getElem?_set_ne (fun e => hkj e.symm)] at hz
      exact .inr ⟨hkj, hz⟩
  refine ⟨hq, hx, by rw [List.length_set]; exact h.hl, fun z hz => ?_, fun i s y' hy => ?_, fun k l z z' hz hz' h1 h2 => ?_⟩
  · obtain ⟨k, hk1, hk2⟩ := List.getElem_of_mem hz
    rcases get k z (by rw [List.getElem?_eq_getElem hk1, hk2]) with ⟨rfl, rfl⟩ | ⟨hne, hz'⟩
    · obtain ⟨y2, hy2, h1, h2, h3⟩ := h.ok x (List.mem_of_getElem? hj)
      rw [hI] at hy2
      cases hy2
      refine ⟨{ y with zv := zb }, ?_, h1, ⟨keep h2.1 h3.1, keep h2.2.1 h3.2.1, hs, hla⟩, h3.1, h3.2.1, ha⟩
      show putI I x.i x.s zb x.i x.s = _
      unfold putI
      rw [if_pos (by simp), hI]
      rfl
    · obtain ⟨y2, hy2, h1, h2, h3⟩ := h.ok z (List.mem_of_getElem? hz')
      refine ⟨y2, ?_, h1, ⟨keep h2.1 h3.1, keep h2.2.1 h3.2.1, keep h2.2.2.1 h3.2.2, h2.2.2.2⟩, h3⟩
      unfold putI
      rw [if_neg (fun e => by
        obtain ⟨q1, q2⟩ : z.i = x.i ∧ z.s = x.s := by simpa using e
        exact hne (h.un k j z x hz' hj q1 q2))]
      exact hy2
  · have : ∃ y2, I i s = some y2 := by
      unfold putI at hy
      split at hy
      · rename_i e
        obtain ⟨q1, q2⟩ : i = x.i ∧ s = x.s := by simpa using e
        rw [q1, q2]
        exact ⟨_, hI⟩
      · exact ⟨_, hy⟩
    obtain ⟨y2, hy2⟩ := this
    obtain ⟨z, hz, k1, k2⟩ := h.al i s y2 hy2
    obtain ⟨k, hk1, hk2⟩ := List.getElem_of_mem hz
    by_cases hkj : k = j
    · subst hkj
      rw [List.getElem?_eq_getElem hk1, hk2] at hj
      cases hj
      exact ⟨_, List.mem_of_getElem? (List.getElem?_set_self hjl), k1, k2⟩
    · exact ⟨z, List.mem_of_getElem? (i := k) (by rw [List.getElem?_set_ne (fun e => hkj e.symm), List.getElem?_eq_getElem hk1, hk2]), k1, k2⟩
  · rcases get k z hz with ⟨rfl, rfl⟩ | ⟨n1, g1⟩ <;> rcases get l z' hz' with ⟨rfl, rfl⟩ | ⟨n2, g2⟩
    · rfl
    · exact h.un k l x z' hj g2 h1 h2
    · exact h.un k l z x g1 hj h1 h2
    · exact h.un k l z z' g1 g2 h1 h2

set_option linter.unusedSimpArgs false in
set_option maxHeartbeats 4000000 in
set_option maxRecDepth 100000 in
theorem rput_I (q g n c : Nat) (xs : List Xi) (nn : Int) (I : Int → Int → Option It) (j : Nat) (x : Xi) (y : It) (b : Option Addr) (lb cb : Nat) (zb : List Int) (w : World) (h : DocI w q (.slice (some ⟨g, 0, none⟩) n c) xs nn I) (hj : xs[j]? = some x) (hI : I x.i x.s = some y) (rb : SlOk w b lb cb zb) (hlb : lb ≤ 16777216) (hn0 : 0 ≤ nn) (hn1 : nn < 4611686018427387904) :
    Calls Tryz.prog 55 #[.pointer (some ⟨q, 0, none⟩), .int .i64 (j : Int), .slice b lb cb] w fun e w' => e = .returned (.tuple #[]) ∧ Kp [q, g] w w' ∧ ∃ xs', DocI w' q (.slice (some ⟨g, 0, none⟩) n c) xs' (nn + 1) (putI I x.i x.s zb) := by
  have HD : Hid (DocI w q (.slice (some ⟨g, 0, none⟩) n c) xs nn I) := h
  obtain ⟨bs, hx⟩ := h.hx
  have hnl : n = xs.length := by
    rcases hx.form with ⟨h1, _⟩ | ⟨g', cap', cur, hv, _⟩
    · cases h1
    · cases hv; rfl
  have hjl : j < xs.length := (List.getElem?_eq_some_iff.1 hj).1
  have HX : Hid (IsX w bs (.slice (some ⟨g, 0, none⟩) n c) xs) := hx
  have HQ : Hid (w.heap[q]? = some (.cells #[.slice (some ⟨g, 0, none⟩) n c, .int .i64 nn] 84 (0, 0))) := h.hq
  have hqg : q ≠ g := fun e => (hx.ne h.hq (by decide)) (by rw [e]; rfl)
  have gw : g < w.heap.size := (hx.lt g rfl).2
  have qw : q < w.heap.size := lt_of_heap h.hq
  have LDF : Hid (∀ W, Below w.heap.size w W → (loadVar 86 ⟨g, j * 11, none⟩).run Tryz.prog W = .ok (.agg x.A) W) := fun W hW => by
    have := (HX.out.next hW)
    rw [hnl] at this
    exact this.load j x hj
  have OW : Hid (∀ W, Below w.heap.size w W → Calls Tryz.prog 62 #[.slice b lb cb] W fun e w' => ∃ a' c', e = .returned (.slice a' lb c') ∧ Kept w' W.heap.size a' lb c' zb ∧ Below W.heap.size W w') := fun W hW => own_kept b lb cb zb W (rb.row.next hW) hlb
  have ST : Hid (∀ W, W.heap[g]? = w.heap[g]? → ∀ z : Xi, ∃ C : Array Value, (storeVar 86 ⟨g, j * 11, none⟩ (.agg z.A)).run Tryz.prog W = .ok () (W.setRow g C) ∧ ∀ V : World, V.heap[g]? = W.heap[g]? → IsX (V.setRow g C) bs (.slice (some ⟨g, 0, none⟩) n c) (xs.set j z)) := fun W hW z => by
    rw [hnl] at hx
    obtain ⟨C, -, hC⟩ := hx.store j z hjl
    rw [hnl]
    exact ⟨C, (hC W hW).1, fun V hV => (hC V (hV.trans hW)).2⟩
  have gj : (j : Int) < (n : Int) := by omega
  have gj0 : (0 : Int) ≤ (j : Int) := by omega
  have wn : IntKind.i64.wrap (nn + 1) = nn + 1 := by rw [IntKind.wrap_i64]; omega
  obtain ⟨B, hB⟩ : ∃ B, Hid (B = w.heap.size) := ⟨_, rfl⟩
  have HJ : Hid (xs[j]? = some x ∧ I x.i x.s = some y ∧ lb ≤ 16777216) := ⟨hj, hI, hlb⟩
  obtain ⟨xi, xs9, xnm, xt, xrt, xd, xld, xcd, xl, xll, xcl, xh, xlh, xch, xtg, xgr, xv, xlv, xcv⟩ := x
  dsimp only [Xi.A] at LDF
  clear h hj hI rb hlb hn0 hn1 hx hjl hnl
  go_enter Tryz.func55, Tryz.ntmps55
  have cq : w.cell? ⟨q, 0, none⟩ = some (.slice (some ⟨g, 0, none⟩) n c) := by rw [cell_of_row _ _ 0 _ _ _ HQ.out]; rfl
  have LD := LDF.out _ (Below.refl _ _)
  go_wp2_with (refine wpList_load_by rfl 86 (.tmp 12) rfl _ _ rfl LD ?_)
  refine (OW.out _ (Below.al (Below.refl _ _) _)).mono ?_
  rintro e z3 ⟨a', c', rfl, hq3, hb3⟩
  have X3 : Hid (z3.heap[w.heap.size]? = some (.cells (itC xi xs9 xnm xt xrt xd xld xcd xl xll xcl xh xlh xch xtg xgr xv xlv xcv) 86 (0, 0))) := blk11 hb3 (at11 _ _ _ rfl)
  have B3 : Hid (Below w.heap.size w z3) := Below.andThen (Below.al (Below.refl _ _) _) hb3
  have K3 : Hid (Kept z3 (w.heap.size + 1) a' lb c' zb) := ⟨hq3.1, fun hl b off e => by have q := hq3.2 hl b off e; first | exact q | (simp at q; omega)⟩
  have c10 : z3.cell? ⟨w.heap.size, 10, none⟩ = some (.slice xv xlv xcv) := by rw [cell_of_row _ _ 10 _ _ _ X3.out]; rfl
  have f10 : z3.frozen? ⟨w.heap.size, 10, none⟩ = false := frozen_of_row _ _ _ _ _ X3.out
  clear hq3 hb3 cq LD OW LDF
  go_wp2_with fail
  obtain ⟨W4, hW4⟩ : ∃ W4, Hid (W4 = z3.setCell ⟨w.heap.size, 10, none⟩ (.slice a' lb c')) := ⟨_, rfl⟩
  have B4 : Hid (Below w.heap.size w W4) := by rw [hW4.out]; exact Below.setCell B3.out (by simp) _
  have X4 : Hid (W4.heap[w.heap.size]? = some (.cells (itC xi xs9 xnm xt xrt xd xld xcd xl xll xcl xh xlh xch xtg xgr a' lb c') 86 (0, 0))) := by show _ = _; rw [hW4.out, heap_setCell_same _ _ _ _ _ _ X3.out]; rfl
  have N4 : Hid (∀ k, k ≠ w.heap.size → W4.heap[k]? = z3.heap[k]?) := fun k hk => by rw [hW4.out]; exact Below.heap_setCell _ _ _ _ (fun e => hk (by simpa using e))
  have LB : Hid (∀ z, Kp [g] W4 z → (loadVar 86 ⟨w.heap.size, 0, none⟩).run Tryz.prog z = .ok (.agg (itC xi xs9 xnm xt xrt xd xld xcd xl xll xcl xh xlh xch xtg xgr a' lb c')) z) := fun z hz => loadX11 z w.heap.size ⟨xi, xs9, xnm, xt, xrt, xd, xld, xcd, xl, xll, xcl, xh, xlh, xch, xtg, xgr, a', lb, c'⟩ (hz.at (by simp; omega) X4.out)
  obtain ⟨C, hC, hIs⟩ := ST.out W4.drew (by show W4.heap[g]? = _; exact B4.out.block g gw) ⟨xi, xs9, xnm, xt, xrt, xd, xld, xcd, xl, xll, xcl, xh, xlh, xch, xtg, xgr, a', lb, c'⟩
  have HIS : Hid (∀ V : World, V.heap[g]? = W4.drew.heap[g]? → IsX (V.setRow g C) bs (.slice (some ⟨g, 0, none⟩) n c) (xs.set j ⟨xi, xs9, xnm, xt, xrt, xd, xld, xcd, xl, xll, xcl, xh, xlh, xch, xtg, xgr, a', lb, c'⟩)) := hIs
  have HC9 : Hid ((storeVar 86 ⟨g, j * 11, none⟩ (.agg (itC xi xs9 xnm xt xrt xd xld xcd xl xll xcl xh xlh xch xtg xgr a' lb c'))).run Tryz.prog W4.drew = .ok () (W4.drew.setRow g C)) := hC
  have cq4 : W4.cell? ⟨q, 0, none⟩ = some (.slice (some ⟨g, 0, none⟩) n c) := by rw [cell_of_row _ _ 0 _ _ _ (blk11 B4.out HQ.out)]; rfl
  have QD0 : W4.heap[q]? = some (.cells #[.slice (some ⟨g, 0, none⟩) n c, .int .i64 nn] 84 (0, 0)) := blk11 B4.out HQ.out
  have QD : Hid ((W4.drew.setRow g C).heap[q]? = some (.cells #[.slice (some ⟨g, 0, none⟩) n c, .int .i64 nn] 84 (0, 0))) := (setRow_other W4.drew _ _ _ hqg).trans QD0
  rw [← hW4.out]
  clear QD0 c10 f10 hC hIs ST
  refine wp_region_held_drew (S := fun x => Kp [g] W4 x ∧ x.cell? ⟨q, 0, none⟩ = some (.slice (some ⟨g, 0, none⟩) n c)) (by kernel_rfl) (⟨(Kp.refl _ _).drew, cq4⟩) (fun hHeld => ?_)
  refine tk 0 (.pointer (some ⟨q, 0, none⟩)) rfl (.inl ⟨by rfl, ?_⟩) ?_
  · intro w9 hSw
    try dsimp only at hSw
    go_simp
    all_goals try decide
    all_goals try assumption
    all_goals try omega
  try simp only [Act.put, gA, gS, gZ, sA, sZ, sS]
  refine tk 1 (.pointer (some ⟨q, 0, none⟩)) rfl (.inl ⟨by rfl, ?_⟩) ?_
  · intro w9 hSw
    try dsimp only at hSw
    go_simp
    all_goals try decide
    all_goals try assumption
    all_goals try omega
  try simp only [Act.put, gA, gS, gZ, sA, sZ, sS]
  refine tk 2 (.pointer (some ⟨q, 0, none⟩)) rfl (.inl ⟨by rfl, ?_⟩) ?_
  · intro w9 hSw
    try dsimp only at hSw
    go_simp
    all_goals try decide
    all_goals try assumption
    all_goals try omega
  try simp only [Act.put, gA, gS, gZ, sA, sZ, sS]
  refine tk 3 (.slice (some ⟨g, 0, none⟩) n c) rfl (.inl ⟨by rfl, ?_⟩) ?_
  · intro w9 hSw
    try dsimp only at hSw
    go_simp
    all_goals try decide
    all_goals try assumption
    all_goals try omega
  try simp only [Act.put, gA, gS, gZ, sA, sZ, sS]
  refine tk 4 (.int .i64 (j : Int)) rfl (.inl ⟨by rfl, ?_⟩) ?_
  · intro w9 hSw
    try dsimp only at hSw
    go_simp
    all_goals try decide
    all_goals try assumption
    all_goals try omega
  try simp only [Act.put, gA, gS, gZ, sA, sZ, sS]
  refine tk 5 (.agg (itC xi xs9 xnm xt xrt xd xld xcd xl xll xcl xh xlh xch xtg xgr a' lb c')) rfl (.inl ⟨by rfl, ?_⟩) ?_
  · intro w9 hSw
    try dsimp only at hSw
    exact ex_load11 86 (.tmp 6) rfl _ _ rfl (LB.out _ hSw.1)
  try simp only [Act.put, gA, gS, gZ, sA, sZ, sS]
  refine tk 6 (.pointer (some ⟨g, j * 11, none⟩)) rfl (.inl ⟨by rfl, ?_⟩) ?_
  · intro w9 hSw
    try dsimp only at hSw
    go_simp
    all_goals try decide
    all_goals try assumption
    all_goals try omega
  try simp only [Act.put, gA, gS, gZ, sA, sZ, sS]
  refine wpAnyH_ready (rs := [7]) (by kernel_rfl) (by simp) ?_
  refine AllReadyH.cons rfl (fun K' hK => ?_) AllReadyH.nil
  rw [if_pos (by rfl)]
  simp only [gA, gS, gZ]
  refine wp_store_by 86 _ _ rfl ⟨g, j * 11, none⟩ _ rfl rfl HC9.out ?_
  have cq9 : (W4.drew.setRow g C).cell? ⟨q, 0, none⟩ = some (.slice (some ⟨g, 0, none⟩) n c) := by rw [cell_of_row _ _ 0 _ _ _ QD.out]; rfl
  refine hK.out _ _ (⟨((Kp.refl _ _).drew).row _ _ (.inl (by simp)), cq9⟩) (fun hHeld => ?_)
  clear hK K'
  try simp only [Act.put, gA, gS, gZ, sA, sZ, sS]
  refine wpAnyH_done (by kernel_rfl) ?_ _
  have QH := QD
  have c1 : (W4.drew.setRow g C).cell? ⟨q, 1, none⟩ = some (.int .i64 nn) := by rw [cell_of_row _ _ 1 _ _ _ QH.out]; rfl
  have f1 : (W4.drew.setRow g C).frozen? ⟨q, 1, none⟩ = false := frozen_of_row _ _ _ _ _ QH.out
  clear hHeld
  go_wp2_with fail
  have HH : ∀ V : World, V = (W4.drew.setRow g C).setCell ⟨q, 1, none⟩ (.int .i64 (nn + 1)) → Kp [q, g] w V ∧ ∃ xs', DocI V q (.slice (some ⟨g, 0, none⟩) n c) xs' (nn + 1) (putI I xi xs9 zb) := fun V hV => by
    have k1 : Kp [q, g] w V := by
      rw [hV]
      exact (((Kp.of B4.out).drew).row g C (.inl (by simp))).set _ _ (.inl (by simp))
    have same : ∀ k, k ≠ q → k ≠ g → k ≠ w.heap.size → V.heap[k]? = z3.heap[k]? := fun k h1 h2 h3 => by
      rw [hV, Below.heap_setCell _ _ _ _ (fun e => h1 (by simpa using e)), setRow_other _ _ _ _ h2]
      exact N4.out k h3
    have sl : SlOk V a' lb c' zb := ⟨⟨K3.out.1.row.size, K3.out.1.row.oct, fun hp => by
      obtain ⟨b9, off, e9, hc⟩ := K3.out.1.row.at_ hp
      refine ⟨b9, off, e9, fun i hi => ?_⟩
      have hge := K3.out.2 hp b9 off e9
      rw [World.cell?_of_block (w := z3) (same b9 (by omega) (by omega) (by omega))]
      exact hc i hi⟩, K3.out.1.le, K3.out.1.max⟩
    refine ⟨k1, _, HD.out.put HJ.out.1 HJ.out.2.1 k1 sl HJ.out.2.2 (fun hl b9 off e9 => by have := K3.out.2 hl b9 off e9; intro h; cases h; omega) ?_ ⟨bs, ?_⟩⟩
    · rw [hV, heap_setCell_same _ _ _ _ _ _ QH.out]
      rfl
    · rw [hV]
      exact (HIS.out W4.drew rfl).same fun k hk => Below.heap_setCell _ _ _ _ (fun e => by cases hk; exact hqg (by simpa using e.symm))
  go_end0
  exact ⟨rfl, HH _ rfl⟩

theorem Below.kp {S : List Nat} {w w' : World} (h : Below w.heap.size w w') : Kp S w w' := Kp.of h
set_option linter.unusedSimpArgs false in
set_option maxHeartbeats 4000000 in
set_option maxRecDepth 100000 in
theorem rwrite_I (q g n c : Nat) (xs : List Xi) (nn : Int) (I : Int → Int → Option It) (i s : Int) (b : Option Addr) (lb cb : Nat) (zb : List Int) (w : World) (h : DocI w q (.slice (some ⟨g, 0, none⟩) n c) xs nn I) (hm : mayI I i s zb) (rb : SlOk w b lb cb zb) (hlb : lb ≤ 16777216) (hn0 : 0 ≤ nn) (hn1 : nn < 4611686018427387904) :
    Calls Tryz.prog 33 #[.pointer (some ⟨q, 0, none⟩), plV i s, .slice b lb cb] w fun e w' => e = .returned (.int .u32 0) ∧ Kp [q, g] w w' ∧ ∃ xs', DocI w' q (.slice (some ⟨g, 0, none⟩) n c) xs' (nn + 1) (putI I i s zb) := by
  obtain ⟨y, hI, hr, hc⟩ := hm
  have MY : Hid (∀ W, Below w.heap.size w W → Calls Tryz.prog 30 #[.pointer (some ⟨q, 0, none⟩), plV i s, .slice b lb cb] W fun e w' => ∃ tg, e = .returned (.tuple #[.int .u8 tg, .int .u32 0]) ∧ Below W.heap.size W w') := fun W hW => by
    have := rmay_I q _ xs nn I i s y b lb cb zb W (h.next hW) hI hr (rb.next hW)
    rw [hc] at this
    exact this
  obtain ⟨j, x, h2, h3, h4, -, hat⟩ := h.at_ hI
  have HAT : Hid (∀ W, Below w.heap.size w W → Calls Tryz.prog 52 #[.pointer (some ⟨q, 0, none⟩), plV i s] W fun e w' => e = .returned (.tuple #[.int .i64 (j : Int), .int .u32 0]) ∧ Below W.heap.size W w') := hat
  have PT : Hid (∀ W, Below w.heap.size w W → Calls Tryz.prog 55 #[.pointer (some ⟨q, 0, none⟩), .int .i64 (j : Int), .slice b lb cb] W fun e w' => e = .returned (.tuple #[]) ∧ Kp [q, g] W w' ∧ ∃ xs', DocI w' q (.slice (some ⟨g, 0, none⟩) n c) xs' (nn + 1) (putI I i s zb)) := fun W hW => by
    have := rput_I q g n c xs nn I j x y b lb cb zb W (h.next hW) h2 (by rw [h3, h4]; exact hI) (rb.next hW) hlb hn0 hn1
    rw [h3, h4] at this
    exact this
  clear h hI hr hc rb h2 h3 h4 hat
  go_enter Tryz.func33, Tryz.ntmps33
  go_wp2_with fail
  refine (MY.out _ (by repeat (first | exact Below.refl _ _ | apply Below.drew | apply Below.al))).mono ?_
  rintro e w1 ⟨tg, rfl, hb⟩
  have B1 : Hid (Below w.heap.size w w1) := Below.andThen (by repeat (first | exact Below.refl _ _ | apply Below.drew | apply Below.al)) hb
  have X1 : Hid (w1.heap[w.heap.size]? = some (.cells #[.int .u16 i, .int .u8 s] 43 (0, 0))) := blk11 hb (at11 _ _ _ rfl)
  have p0 : w1.cell? ⟨w.heap.size, 0, none⟩ = some (.int .u16 i) := by rw [cell_of_row _ _ 0 _ _ _ X1.out]; rfl
  have p1 : w1.cell? ⟨w.heap.size, 1, none⟩ = some (.int .u8 s) := by rw [cell_of_row _ _ 1 _ _ _ X1.out]; rfl
  clear hb MY
  go_wp2_with fail
  refine (HAT.out _ B1.out).mono ?_
  rintro e w2 ⟨rfl, hb⟩
  have B2 : Hid (Below w.heap.size w w2) := Below.andThen B1.out hb
  clear hb HAT
  go_wp2_with fail
  refine (PT.out _ B2.out).mono ?_
  rintro e w3 ⟨rfl, hk, hd⟩
  have K3 : Hid (Kp [q, g] w w3) := (Kp.of B2.out).trans hk
  clear hk PT
  go_wp2_with fail
  go_ret
  exact ⟨rfl, K3.out, hd⟩
#print axioms rput_I
#print axioms rwrite_I
end Go.Proofs.YtajllkkbgpijiaaGreatDoor
namespace Go.Proofs.YtajllkkbgpijiaaGreatDoor
open Go.RowKit

theorem sizeU : (Tryz.prog.info? 46).map (·.size) = some 3 := by kernel_rfl
theorem aggU : ∀ w, (isAgg 46).run Tryz.prog w = .ok true w := fun w => by simp [isAgg, run_underlying Tryz.underlying46]
/-- What waits, in memory of its own. -/
abbrev IsU (w : World) (base : Nat) (v : Value) (l : List Vq) : Prop := w.ownsRow base 46 3 v l.length (flv l)
theorem IsU.form {w : World} {base : Nat} {v : Value} {l : List Vq} (h : IsU w base v l) : (v = .slice none 0 0 ∧ l = []) ∨ ∃ g cap cur, v = .slice (some ⟨g, 0, none⟩) l.length cap ∧ base ≤ g ∧ w.heap[g]? = some (.cells cur 46 (0, 0)) ∧ l.length ≤ cap ∧ cap ≤ maxLen ∧ cur.size = cap * 3 ∧ cur.toList.take (l.length * 3) = flv l := by
  rcases h.2 with ⟨h1, h2⟩ | ⟨g, cap, cur, hv, hg, hh, hn, hm, hs, ht⟩
  · exact .inl ⟨h1, List.eq_nil_of_length_eq_zero h2⟩
  · exact .inr ⟨g, cap, cur, hv, hg, hh, hn, hm, hs, ht⟩
/-- One of them out of memory. -/
theorem IsU.load {w : World} {base g cap : Nat} {l : List Vq} (h : IsU w base (.slice (some ⟨g, 0, none⟩) l.length cap) l) (i : Nat) (x : Vq) (hx : l[i]? = some x) : (loadVar 46 ⟨g, i * 3, none⟩).run Tryz.prog w = .ok (.agg x.A) w := by
  have hi : i < l.length := (List.getElem?_eq_some_iff.1 hx).1
  rcases h.form with ⟨h1, _⟩ | ⟨g', cap', cur, hv, _, hh, hn, _, hs, ht⟩
  · cases h1
  · cases hv
    have := load_part 46 3 sizeU aggU w g (i * 3) cur.toList 46 hh (by simp [hs]; omega)
    rw [this]
    have e : (cur.toList.drop (i * 3)).take 3 = x.L := by
      rw [← flv_at l i x hx, ← ht, List.drop_take, List.take_take, Nat.min_eq_left (by omega)]
    rw [e]
    rfl

theorem infoVd : (Tryz.prog.info? 46).map (fun i => (i.zero, i.size, i.bytes)) = some (some (.agg #[.int .u16 0, .int .u8 0, .slice none 0 0]), 3, 32) := by kernel_rfl
theorem isU_nil (w : World) (b : Nat) : IsU w b (.slice none 0 0) [] := ⟨rfl, .inl ⟨rfl, rfl⟩⟩
theorem IsU.ne {w : World} {base b : Nat} {v : Value} {us : List Vq} {C : Array Value} {T : TypeId} {f : Nat × Nat} (h : IsU w base v us) (hb : w.heap[b]? = some (.cells C T f)) (hT : T ≠ 46) : some b ≠ v.ownBlock := by
  rcases h.2 with ⟨h1, _⟩ | ⟨g, cap, cur, hv, _, hh, _⟩
  · rw [h1]; intro e; cases e
  · rw [hv]
    intro e
    simp only [Value.ownBlock] at e
    cases e
    rw [hh] at hb
    cases hb
    exact hT rfl
theorem IsU.same {w w' : World} {base : Nat} {v : Value} {l : List Vq} (h : IsU w base v l) (hk : ∀ k, v.ownBlock = some k → w'.heap[k]? = w.heap[k]?) : IsU w' base v l := by
  refine ⟨h.1, ?_⟩
  rcases h.2 with ⟨h1, h2⟩ | ⟨g, cap, cur, hv, hb, hh, r⟩
  · exact .inl ⟨h1, h2⟩
  · exact .inr ⟨g, cap, cur, hv, hb, (hk g (by rw [hv]; rfl)).trans hh, r⟩
theorem IsU.next {w w' : World} {base : Nat} {v : Value} {l : List Vq} (h : IsU w base v l) (hb : Below w.heap.size w w') : IsU w' base v l := h.same fun k hk => hb.block k (h.lt k hk).2
/-- One value put behind those of a row of its own. -/
theorem wpList_append_val2 {ops : Array Oper} {rest : List Oper} {o : Oper} {a : Act} {w : World} {Q : Exit → Act → World → Prop} (hgd : o.guard = none) (s x : Operand)
    (ho : o.op = .call { callee := .builtin .append, args := #[s, x], argTypes := #[36, 36] }) (base : Nat) (v : Value) (l : List Vq) (hs : a.eval s = v) (hown : IsU w base v l)
    (ad : Addr) (y : Vq) (hx : a.eval x = .slice (some ad) 1 1) (hnews : ∀ j u, y.L[j]? = some u → w.cell? (ad.add j) = some u) (h63 : l.length ≤ 1000000) (hbase : base ≤ w.heap.size)
    (h : ∀ v' w', IsU w' base v' (l ++ [y]) → w.grownBy w' v.ownBlock → wpList Tryz.prog ops Q rest (a.put o.dst v') w') : wpList Tryz.prog ops Q (o :: rest) a w := by
  obtain ⟨i0, hi, hz0, hz1, hz2⟩ := info_parts infoVd
  refine wpList_append_own (P := Tryz.prog) w hgd s x 36 ho base 46 i0 _ 3 32 Tryz.underlying36 hi hz0 hz1 hz2 rfl (by decide) v l.length _ hs hown ad 1 1 y.L hx (Vq.L_len y) hnews (fun u hu => by simp [Vq.L] at hu; rcases hu with rfl | rfl | rfl <;> rfl) (by unfold maxLen; omega) (by omega) hbase ?_
  intro v' w' h1 h2 _
  refine h v' w' ?_ h2
  show w'.ownsRow base 46 3 v' (l ++ [y]).length (flv (l ++ [y]))
  rw [flv_app, flv_one, List.length_append]
  exact h1

theorem IsU.at {w : World} {base g cap : Nat} {l : List Vq} (h : IsU w base (.slice (some ⟨g, 0, none⟩) l.length cap) l) (i : Nat) (x : Vq) (hx : l[i]? = some x) : w.cell? ⟨g, i * 3, none⟩ = some (.int .u16 x.i) ∧ w.cell? ⟨g, i * 3 + 1, none⟩ = some (.int .u8 x.s) ∧ w.cell? ⟨g, i * 3 + 2, none⟩ = some (.slice (some ⟨x.g, 0, none⟩) x.r x.r) := by
  have hi : i < l.length := (List.getElem?_eq_some_iff.1 hx).1
  rcases h.form with ⟨h1, _⟩ | ⟨g', cap', cur, hv, _, hh, hn, _, hs, ht⟩
  · cases h1
  · cases hv
    have q : ∀ c, c < 3 → cur[i * 3 + c]? = x.L[c]? := fun c hc => by
      rw [← flv_at l i x hx, ← ht, List.getElem?_take, if_pos hc, List.getElem?_drop, List.getElem?_take, if_pos (by omega)]
      simp
    exact ⟨by rw [cell_of_row w g _ _ _ _ hh]; exact q 0 (by decide), by rw [cell_of_row w g _ _ _ _ hh]; exact q 1 (by decide), by rw [cell_of_row w g _ _ _ _ hh]; exact q 2 (by decide)⟩
#print axioms wpList_append_val2
#print axioms IsU.at
end Go.Proofs.YtajllkkbgpijiaaGreatDoor
namespace Go.Proofs.YtajllkkbgpijiaaGreatDoor
open Go.RowKit

/-- What the document's Unpack answers. -/
def UPostD (w : World) (RES : Int) (ROWS : List (Int × Int × List Int)) (e : Ending) (w' : World) : Prop := ((RES ≠ 0 ∧ e = .returned (.tuple #[.slice none 0 0, .int .u32 RES])) ∨ (RES = 0 ∧ ∃ v us, e = .returned (.tuple #[v, .int .u32 0]) ∧ IsU w' w.heap.size v us ∧ Vs w' w.heap.size us ROWS)) ∧ Below w.heap.size w w'
set_option linter.unusedSimpArgs false in
set_option maxHeartbeats 4000000 in
set_option maxRecDepth 100000 in
theorem runpack_O (mp : Value) (ad : Option Addr) (gm off N cap : Nat) (ms : List Mq) (mc : Mq → List Int → Int) (a : Option Addr) (len capb : Nat) (zs : List Int) (w : World) (hN : ms.length = N) (had : 0 < N → ad = some ⟨gm, off, none⟩) (h64 : N ≤ 64) (hM : MsO w gm off ms) (hI : ∀ x ∈ ms, 0 ≤ x.i ∧ x.i < 65536) (hC : Calls Tryz.prog 26 #[mp, .slice ad N cap, .bool false] w fun e w' => e = .returned (.int .u32 0) ∧ Below w.heap.size w w') (hs : sumB ms N ≤ 64) (hr : Row w a len zs) (hlen : (sumB ms N + 7) / 8 ≤ len)
    (HMay : ∀ W, Below w.heap.size w W → ∀ x ∈ ms, gpB x = false → ∀ zb g, zb.length = (x.b + 7) / 8 → Oct zb → W.heap[g]? = some (.cells (zb.map (Value.int .u8)).toArray 5 (0, 0)) → Calls Tryz.prog 30 #[mp, plV x.i x.s, .slice (some ⟨g, 0, none⟩) ((x.b + 7) / 8) ((x.b + 7) / 8)] W fun e w' => ∃ tg, e = .returned (.tuple #[.int .u8 tg, .int .u32 (mc x zb)]) ∧ Below W.heap.size W w') :
    Calls Tryz.prog 8 #[mp, .slice ad N cap, .slice a len capb] w fun e w' => UPostD w (unC mc zs ms 0) (unV zs ms 0) e w' := by
  obtain ⟨R, hR⟩ : ∃ R, Hid (R = (sumB ms N + 7) / 8) := ⟨_, rfl⟩
  have HC : Hid (Calls Tryz.prog 26 #[mp, .slice ad N cap, .bool false] w fun e w' => e = .returned (.int .u32 0) ∧ Below w.heap.size w w') := hC
  have HS : Hid (∀ W, Below w.heap.size w W → Calls Tryz.prog 27 #[.slice ad N cap] W fun e w' => e = .returned (.int .i64 (R : Int)) ∧ Below W.heap.size W w') := fun W hb => by rw [hR.out]; exact rsize_O ad gm off N cap had ms W hN h64 (hM.next hb) hs
  have HI : Hid (∀ x ∈ ms, 0 ≤ x.i ∧ x.i < 65536) := hI
  have HY : Hid (∀ W, Below w.heap.size w W → ∀ x ∈ ms, gpB x = false → ∀ zb g, zb.length = (x.b + 7) / 8 → Oct zb → W.heap[g]? = some (.cells (zb.map (Value.int .u8)).toArray 5 (0, 0)) → Calls Tryz.prog 30 #[mp, plV x.i x.s, .slice (some ⟨g, 0, none⟩) ((x.b + 7) / 8) ((x.b + 7) / 8)] W fun e w' => ∃ tg, e = .returned (.tuple #[.int .u8 tg, .int .u32 (mc x zb)]) ∧ Below W.heap.size W w') := HMay
  have HAD : Hid (0 < N → ad = some ⟨gm, off, none⟩) := had
  obtain ⟨RES, hRES⟩ : ∃ RES, Hid (RES = unC mc zs ms 0) := ⟨_, rfl⟩
  obtain ⟨ROWS, hROWS⟩ : ∃ ROWS, Hid (ROWS = unV zs ms 0) := ⟨_, rfl⟩
  rw [← hRES.out, ← hROWS.out]
  have HM : Hid (MsO w gm off ms) := hM
  have HW : Hid (Row w a len zs) := hr
  have hRl : ¬ ((len : Int) < (R : Int)) := by have := hR.out; omega
  clear hM hr HMay hI hC had
  go_enter Tryz.func8, Tryz.ntmps8
  go_wp2_with fail
  refine HC.out.mono ?_
  rintro e w1 ⟨rfl, hb1⟩
  have B1 : Hid (Below w.heap.size w w1) := hb1
  clear hb1 HC
  go_wp2_with fail
  refine (HS.out _ B1.out).mono ?_
  rintro e w2 ⟨rfl, hb2⟩
  have B2 : Hid (Below w.heap.size w w2) := Below.andThen B1.out hb2
  clear hb2 HS
  go_wp2_with fail
  have HRN : Hid (R ≤ len) := by show R ≤ len; omega
  rw [show decide (len < R) = false from decide_eq_false (by omega)]
  clear hRl
  go_loopw [9, 10, 11] (fun u9 av iv wr => ∃ (k K : Nat) (us : List Vq) (rs : List (Int × Int × List Int)), k ≤ N ∧ iv = .int .i64 (k : Int) ∧ av = .int .i64 (K : Int) ∧ Hid (K = sumB ms k) ∧ Hid (IsU wr w.heap.size u9 us ∧ us.length ≤ k ∧ Vs wr w.heap.size us rs ∧ RES = unC mc zs (ms.drop k) K ∧ ROWS = rs ++ unV zs (ms.drop k) K ∧ Below w.heap.size w wr)) (fun _ _ iv _ => N - (intOf iv).toNat)
  case atStart => exact ⟨0, 0, [], [], Nat.zero_le _, rfl, rfl, rfl, isU_nil _ _, Nat.le_refl _, vs_nil _ _, hRES.out, hROWS.out, B2.out⟩
  case round =>
    obtain ⟨k, sk, us, rs, hk, rfl, rfl, hsk, HR⟩ := hrel
    by_cases hkN : k < N
    · obtain rfl := HAD.out (by omega)
      have gk : (k : Int) < (N : Int) := by omega
      have gk0 : (0 : Int) ≤ (k : Int) := by omega
      obtain ⟨x, hx⟩ : ∃ x, ms[k]? = some x := ⟨_, List.getElem?_eq_getElem (by omega)⟩
      obtain ⟨r1, r2, r3, rC, rV, r6⟩ := HR.out
      have MC : Hid (∀ W, Below w.heap.size w W → W.cell? ⟨gm, off + k * 3, none⟩ = some (.int .u16 x.i) ∧ W.cell? ⟨gm, off + k * 3 + 1, none⟩ = some (.int .u8 x.s) ∧ W.cell? ⟨gm, off + k * 3 + 2, none⟩ = some (.int .i64 (x.b : Int))) := fun W hW => (HM.out.next hW) k x hx
      have HXm : Hid (x ∈ ms) := List.mem_of_getElem? hx
      have SS : Hid (sumB ms (k + 1) = sk + x.b) := by show _ = _; rw [hsk.out]; exact sumB_succ hx
      have SL : Hid (sumB ms (k + 1) ≤ sumB ms N) := sumB_le ms (by omega)
      have wk : IntKind.i64.wrap ((k : Int) + 1) = ((k + 1 : Nat) : Int) := by rw [IntKind.wrap_i64]; omega
      have DR : ms.drop k = x :: ms.drop (k + 1) := by
        obtain ⟨hk2, he⟩ := List.getElem?_eq_some_iff.1 hx
        rw [List.drop_eq_getElem_cons hk2, he]
      have RC : Hid (RES = if gpB x = true then unC mc zs (ms.drop (k + 1)) (sk + x.b) else if mc x (tkB zs sk x.b) ≠ 0 then mc x (tkB zs sk x.b) else unC mc zs (ms.drop (k + 1)) (sk + x.b)) := by
        show _ = _
        rw [rC, DR]
        rfl
      have RV : Hid (ROWS = rs ++ if gpB x = true then unV zs (ms.drop (k + 1)) (sk + x.b) else (x.i, x.s, tkB zs sk x.b) :: unV zs (ms.drop (k + 1)) (sk + x.b)) := by
        show _ = _
        rw [rV, DR]
        rfl
      have OT : Hid (Oct (tkB zs sk x.b)) := tkB_oct HW.out.oct _ _
      have R1 : Hid (IsU wr w.heap.size u9 us) := r1
      have R2 : Hid (us.length ≤ k) := r2
      have R3 : Hid (Vs wr w.heap.size us rs) := r3
      have R6 : Hid (Below w.heap.size w wr) := r6
      have xb64 : x.b ≤ 64 := by have := SS.out; have := SL.out; omega
      obtain ⟨r8, hr8⟩ : ∃ r8, Hid (r8 = (x.b + 7) / 8) := ⟨_, rfl⟩
      have r88 : r8 ≤ 8 := by have := hr8.out; omega
      have MK := mkZ r8 (by omega)
      have e1 : IntKind.i64.wrap ((x.b : Int) + 7) = (x.b : Int) + 7 := by rw [IntKind.wrap_i64]; omega
      have e2 : ((x.b : Int) + 7).tdiv 8 = (r8 : Int) := by rw [Int.tdiv_eq_ediv_of_nonneg (by omega)]; have := hr8.out; omega
      have e3 : IntKind.i64.wrap (r8 : Int) = (r8 : Int) := by rw [IntKind.wrap_i64]; omega
      have c2 := (MC.out _ R6.out).2.2
      clear r1 r2 r3 r6 rC rV DR HR hx
      go_wp2_with fail
      obtain ⟨g, hg⟩ : ∃ g, Hid (g = wr.heap.size) := ⟨_, rfl⟩
      rw [← hg.out]
      clear e1 e2 e3 c2
      obtain ⟨wo, rfl⟩ : ∃ z, z = wr := ⟨_, rfl⟩
      go_loopw [10, 13] (fun av kv wr => ∃ n K : Nat, n ≤ x.b ∧ kv = .int .i64 (n : Int) ∧ av = .int .i64 (K : Int) ∧ Hid (K = sk + n) ∧ Hid (wr.heap[g]? = some (.cells ((layL zs sk 0 (List.replicate r8 0) ((bq x.b).take n)).map (Value.int .u8)).toArray 5 (0, 0)) ∧ Below wo.heap.size wo wr)) (fun _ kv _ => x.b - (intOf kv).toNat)
      case atStart => exact ⟨0, sk, Nat.zero_le _, rfl, rfl, rfl, by rw [hg.out]; exact heap_new _ _, Below.al (Below.refl _ _) _⟩
      case round =>
        obtain ⟨n, K, hn, rfl, rfl, hK, HL⟩ := hrel
        have B0 : Hid (Below w.heap.size w wr) := Below.andThen R6.out HL.out.2
        have c2 := (MC.out _ B0.out).2.2
        by_cases hnb : n < x.b
        · have gn : (n : Int) < (x.b : Int) := by omega
          obtain ⟨ys, hys⟩ : ∃ ys, Hid (ys = layL zs sk 0 (List.replicate r8 0) ((bq x.b).take n)) := ⟨_, rfl⟩
          have yl : ys.length = r8 := by rw [hys.out, layL_len]; simp
          rw [← hys.out] at HL
          have YN : Hid (layL zs sk 0 (List.replicate r8 0) ((bq x.b).take (n + 1)) = orB ys n (bitA zs K)) := by show _ = _; rw [layL_next hnb, hK.out, hys.out, Nat.zero_add]
          have HGr : Hid (wr.heap[g]? = some (.cells (ys.map (Value.int .u8)).toArray 5 (0, 0))) := HL.out.1
          have HB : Hid (Below wo.heap.size wo wr) := HL.out.2
          have nR : n < 8 * r8 := by have := hr8.out; omega
          obtain ⟨y, hy⟩ : ∃ y, Hid (y = bitA zs K) := ⟨_, rfl⟩
          obtain ⟨q, hq⟩ : ∃ q, Hid (q = ys.getD (n / 8) 0) := ⟨_, rfl⟩
          obtain ⟨sh, hsh⟩ : ∃ sh, Hid (sh = IntKind.u8.wrap (y * 2 ^ (n % 8))) := ⟨_, rfl⟩
          obtain ⟨rr, hrr⟩ : ∃ rr, Hid (rr = bits .or .u8 q sh) := ⟨_, rfl⟩
          have K64 : K < 64 := by have := SS.out; have := SL.out; have := hK.out; omega
          have BT : Hid (∀ W, Below w.heap.size w W → Calls Tryz.prog 28 #[.slice a len capb, .int .i64 (K : Int)] W fun e w' => e = .returned (.int .u8 y) ∧ w' = W) := fun W hW => by rw [hy.out]; exact rbit_any a len capb zs K W (HW.out.next hW) (by have := HRN.out; have := hR.out; have := SS.out; have := SL.out; have := hK.out; omega) (by omega)
          have CG : Hid (∀ z : World, z.heap[g]? = some (.cells (ys.map (Value.int .u8)).toArray 5 (0, 0)) → z.cell? ⟨g, n / 8, none⟩ = some (.int .u8 q)) := fun z hz => by
            rw [cell_of_row z _ _ _ _ _ hz, hq.out]
            simp [List.getD_eq_getElem?_getD, show n / 8 < ys.length from by omega]
          have YS : Hid ((ys.map (Value.int .u8)).toArray.setIfInBounds (n / 8) (.int .u8 rr) = ((layL zs sk 0 (List.replicate r8 0) ((bq x.b).take (n + 1))).map (Value.int .u8)).toArray) := by
            show _ = _
            rw [YN.out]
            unfold orB
            rw [hrr.out, hq.out, hsh.out, hy.out, List.map_set]
            simp
          have wn : IntKind.i64.wrap ((n : Int) + 1) = ((n + 1 : Nat) : Int) := by rw [IntKind.wrap_i64]; omega
          have wK : IntKind.i64.wrap ((K : Int) + 1) = ((K + 1 : Nat) : Int) := by rw [IntKind.wrap_i64]; omega
          clear hys HL
          go_wp2_with fail
          refine wp_region_held_drew (S := fun x1 => Kp [g] wr x1) (by kernel_rfl) (Kp.drew (Kp.refl _ _)) (fun hHeld => ?_)
          refine tk 0 (.slice (some ⟨g, 0, none⟩) r8 r8) rfl (.inl ⟨by rfl, ?_⟩) ?_
          · intro w9 hSw
            try dsimp only at hSw
            go_simp
            all_goals try decide
            all_goals try assumption
            all_goals try omega
          try simp only [Act.put, gA, gS, gZ, sA, sZ, sS]
          refine tk 1 (.int .i64 (n : Int)) rfl (.inl ⟨by rfl, ?_⟩) ?_
          · intro w9 hSw
            try dsimp only at hSw
            go_simp
            all_goals try decide
            all_goals try assumption
            all_goals try omega
          try simp only [Act.put, gA, gS, gZ, sA, sZ, sS]
          refine tk 2 (.int .i64 ((n : Int) / 8)) rfl (.inl ⟨by rfl, ?_⟩) ?_
          · intro w9 hSw
            try dsimp only at hSw
            have e8 : (n : Int).tdiv 8 = (n : Int) / 8 := Int.tdiv_eq_ediv_of_nonneg (by omega)
            have e9 : IntKind.i64.wrap ((n : Int) / 8) = (n : Int) / 8 := by rw [IntKind.wrap_i64]; omega
            go_simp
            all_goals try omega
          try simp only [Act.put, gA, gS, gZ, sA, sZ, sS]
          refine tk 3 (.slice (some ⟨g, 0, none⟩) r8 r8) rfl (.inl ⟨by rfl, ?_⟩) ?_
          · intro w9 hSw
            try dsimp only at hSw
            go_simp
            all_goals try decide
            all_goals try assumption
            all_goals try omega
          try simp only [Act.put, gA, gS, gZ, sA, sZ, sS]
          refine tk 4 (.int .i64 (n : Int)) rfl (.inl ⟨by rfl, ?_⟩) ?_
          · intro w9 hSw
            try dsimp only at hSw
            go_simp
            all_goals try decide
            all_goals try assumption
            all_goals try omega
          try simp only [Act.put, gA, gS, gZ, sA, sZ, sS]
          refine tk 5 (.int .i64 ((n : Int) / 8)) rfl (.inl ⟨by rfl, ?_⟩) ?_
          · intro w9 hSw
            try dsimp only at hSw
            have e8 : (n : Int).tdiv 8 = (n : Int) / 8 := Int.tdiv_eq_ediv_of_nonneg (by omega)
            have e9 : IntKind.i64.wrap ((n : Int) / 8) = (n : Int) / 8 := by rw [IntKind.wrap_i64]; omega
            go_simp
            all_goals try omega
          try simp only [Act.put, gA, gS, gZ, sA, sZ, sS]
          refine tk 6 (.pointer (some ⟨g, n / 8, none⟩)) rfl (.inl ⟨by rfl, ?_⟩) ?_
          · intro w9 hSw
            try dsimp only at hSw
            have q1 : (n : Int) / 8 < (r8 : Int) := by omega
            have q0 : (0 : Int) ≤ (n : Int) / 8 := by omega
            have q2 : ((n : Int) / 8).toNat = n / 8 := by omega
            go_simp
            all_goals try omega
          try simp only [Act.put, gA, gS, gZ, sA, sZ, sS]
          refine tk 8 (.slice a len capb) rfl (.inl ⟨by rfl, ?_⟩) ?_
          · intro w9 hSw
            try dsimp only at hSw
            go_simp
            all_goals try decide
            all_goals try assumption
            all_goals try omega
          try simp only [Act.put, gA, gS, gZ, sA, sZ, sS]
          refine tk 9 (.int .i64 (K : Int)) rfl (.inl ⟨by rfl, ?_⟩) ?_
          · intro w9 hSw
            try dsimp only at hSw
            go_simp
            all_goals try decide
            all_goals try assumption
            all_goals try omega
          try simp only [Act.put, gA, gS, gZ, sA, sZ, sS]
          refine tk 11 (.int .i64 (n : Int)) rfl (.inl ⟨by rfl, ?_⟩) ?_
          · intro w9 hSw
            try dsimp only at hSw
            go_simp
            all_goals try decide
            all_goals try assumption
            all_goals try omega
          try simp only [Act.put, gA, gS, gZ, sA, sZ, sS]
          refine tk 12 (.int .i64 ((n : Int) % 8)) rfl (.inl ⟨by rfl, ?_⟩) ?_
          · intro w9 hSw
            try dsimp only at hSw
            go_simp
            all_goals exact Int.tmod_eq_emod_of_nonneg (by omega)
          try simp only [Act.put, gA, gS, gZ, sA, sZ, sS]
          refine wpAnyH_ready (rs := [7, 10]) (by kernel_rfl) (by simp) ?_
          refine AllReadyH.cons rfl (fun K' hK => ?_) (AllReadyH.cons rfl (fun K' hK => ?_) AllReadyH.nil)
          · rw [if_pos (by rfl)]
            simp only [gA, gS, gZ]
            have c0 := CG.out wr.drew HGr.out
            go_wp2_with fail
            refine hK.out _ _ (hHeld) (fun hHeld => ?_)
            clear hK K'
            try simp only [Act.put, gA, gS, gZ, sA, sZ, sS]
            refine wpAnyH_ready (rs := [10]) (by kernel_rfl) (by simp) ?_
            refine AllReadyH.cons rfl (fun K' hK => ?_) AllReadyH.nil
            rw [if_pos (by rfl)]
            simp only [gA, gS, gZ]
            go_wp2_with fail
            refine (BT.out _ (Below.drew B0.out)).mono ?_
            rintro e wb ⟨rfl, rfl⟩
            try go_wp2_with fail
            refine hK.out _ _ (hHeld) (fun hHeld => ?_)
            clear hK K'
            try simp only [Act.put, gA, gS, gZ, sA, sZ, sS]
            refine tk 13 (.int .u8 sh) rfl (.inl ⟨by rfl, ?_⟩) ?_
            · intro w9 hSw
              try dsimp only at hSw
              have s1 : (0 : Int) ≤ (n : Int) % 8 := by omega
              have s2 : ((n : Int) % 8).toNat = n % 8 := by omega
              have s3 : ¬ ((n : Int) % 8 < 0) := by omega
              go_simp
              all_goals exact hsh.out.symm
            try simp only [Act.put, gA, gS, gZ, sA, sZ, sS]
            refine tk 14 (.int .u8 rr) rfl (.inl ⟨by rfl, ?_⟩) ?_
            · intro w9 hSw
              try dsimp only at hSw
              have er : bits .or .u8 q sh = rr := hrr.out.symm
              go_simp
              all_goals try assumption
            try simp only [Act.put, gA, gS, gZ, sA, sZ, sS]
            refine tk 15 (.pointer (some ⟨g, n / 8, none⟩)) rfl (.inl ⟨by rfl, ?_⟩) ?_
            · intro w9 hSw
              try dsimp only at hSw
              have q1 : (n : Int) / 8 < (r8 : Int) := by omega
              have q0 : (0 : Int) ≤ (n : Int) / 8 := by omega
              have q2 : ((n : Int) / 8).toNat = n / 8 := by omega
              go_simp
              all_goals try omega
            try simp only [Act.put, gA, gS, gZ, sA, sZ, sS]
            refine wpAnyH_ready (rs := [16]) (by kernel_rfl) (by simp) ?_
            refine AllReadyH.cons rfl (fun K' hK => ?_) AllReadyH.nil
            rw [if_pos (by rfl)]
            simp only [gA, gS, gZ]
            have c0 := CG.out wr.drew HGr.out
            have f0 : wr.drew.frozen? ⟨g, n / 8, none⟩ = false := frozen_of_row _ _ _ _ _ HGr.out
            go_wp2_with fail
            refine hK.out _ _ (hHeld.set _ _ (.inl (by simp))) (fun hHeld => ?_)
            clear hK K'
            try simp only [Act.put, gA, gS, gZ, sA, sZ, sS]
            refine wpAnyH_done (by kernel_rfl) ?_ _
            clear hHeld
            have G9 : (wr.drew.setCell ⟨g, n / 8, none⟩ (.int .u8 rr)).heap[g]? = some (.cells ((layL zs sk 0 (List.replicate r8 0) ((bq x.b).take (n + 1))).map (Value.int .u8)).toArray 5 (0, 0)) := by rw [← YS.out]; exact heap_setCell_same _ _ _ _ _ _ HGr.out
            have B9 : Below wo.heap.size wo (wr.drew.setCell ⟨g, n / 8, none⟩ (.int .u8 rr)) := Below.setCell (Below.drew HB.out) (by have := hg.out; simp; omega) _
            go_wp2_with fail
            exact ⟨⟨n + 1, K + 1, by omega, by go_num, by go_num, by show _ = _; have := hK.out; omega, G9, B9⟩, by simp [intOf]; omega⟩
          · rw [if_pos (by rfl)]
            simp only [gA, gS, gZ]
            go_wp2_with fail
            refine (BT.out _ (Below.drew B0.out)).mono ?_
            rintro e wb ⟨rfl, rfl⟩
            try go_wp2_with fail
            refine hK.out _ _ (hHeld) (fun hHeld => ?_)
            clear hK K'
            try simp only [Act.put, gA, gS, gZ, sA, sZ, sS]
            refine tk 13 (.int .u8 sh) rfl (.inl ⟨by rfl, ?_⟩) ?_
            · intro w9 hSw
              try dsimp only at hSw
              have s1 : (0 : Int) ≤ (n : Int) % 8 := by omega
              have s2 : ((n : Int) % 8).toNat = n % 8 := by omega
              have s3 : ¬ ((n : Int) % 8 < 0) := by omega
              go_simp
              all_goals exact hsh.out.symm
            try simp only [Act.put, gA, gS, gZ, sA, sZ, sS]
            refine wpAnyH_ready (rs := [7]) (by kernel_rfl) (by simp) ?_
            refine AllReadyH.cons rfl (fun K' hK => ?_) AllReadyH.nil
            rw [if_pos (by rfl)]
            simp only [gA, gS, gZ]
            have c0 := CG.out wr.drew HGr.out
            go_wp2_with fail
            refine hK.out _ _ (hHeld) (fun hHeld => ?_)
            clear hK K'
            try simp only [Act.put, gA, gS, gZ, sA, sZ, sS]
            refine tk 14 (.int .u8 rr) rfl (.inl ⟨by rfl, ?_⟩) ?_
            · intro w9 hSw
              try dsimp only at hSw
              have er : bits .or .u8 q sh = rr := hrr.out.symm
              go_simp
              all_goals try assumption
            try simp only [Act.put, gA, gS, gZ, sA, sZ, sS]
            refine tk 15 (.pointer (some ⟨g, n / 8, none⟩)) rfl (.inl ⟨by rfl, ?_⟩) ?_
            · intro w9 hSw
              try dsimp only at hSw
              have q1 : (n : Int) / 8 < (r8 : Int) := by omega
              have q0 : (0 : Int) ≤ (n : Int) / 8 := by omega
              have q2 : ((n : Int) / 8).toNat = n / 8 := by omega
              go_simp
              all_goals try omega
            try simp only [Act.put, gA, gS, gZ, sA, sZ, sS]
            refine wpAnyH_ready (rs := [16]) (by kernel_rfl) (by simp) ?_
            refine AllReadyH.cons rfl (fun K' hK => ?_) AllReadyH.nil
            rw [if_pos (by rfl)]
            simp only [gA, gS, gZ]
            have c0 := CG.out wr.drew HGr.out
            have f0 : wr.drew.frozen? ⟨g, n / 8, none⟩ = false := frozen_of_row _ _ _ _ _ HGr.out
            go_wp2_with fail
            refine hK.out _ _ (hHeld.set _ _ (.inl (by simp))) (fun hHeld => ?_)
            clear hK K'
            try simp only [Act.put, gA, gS, gZ, sA, sZ, sS]
            refine wpAnyH_done (by kernel_rfl) ?_ _
            clear hHeld
            have G9 : (wr.drew.setCell ⟨g, n / 8, none⟩ (.int .u8 rr)).heap[g]? = some (.cells ((layL zs sk 0 (List.replicate r8 0) ((bq x.b).take (n + 1))).map (Value.int .u8)).toArray 5 (0, 0)) := by rw [← YS.out]; exact heap_setCell_same _ _ _ _ _ _ HGr.out
            have B9 : Below wo.heap.size wo (wr.drew.setCell ⟨g, n / 8, none⟩ (.int .u8 rr)) := Below.setCell (Below.drew HB.out) (by have := hg.out; simp; omega) _
            go_wp2_with fail
            exact ⟨⟨n + 1, K + 1, by omega, by go_num, by go_num, by show _ = _; have := hK.out; omega, G9, B9⟩, by simp [intOf]; omega⟩
        · obtain rfl : n = x.b := by omega
          have gn : ¬ ((x.b : Int) < (x.b : Int)) := by omega
          have GT : Hid (wr.heap[g]? = some (.cells ((tkB zs sk x.b).map (Value.int .u8)).toArray 5 (0, 0))) := by
            have := HL.out.1
            rw [layL_all, hr8.out] at this
            exact this
          have NZ : Hid (Below wo.heap.size wo wr) := HL.out.2
          have KS : Hid (K = sumB ms (k + 1)) := by show _ = _; rw [SS.out, hK.out]
          have KE : Hid (K = sk + x.b) := hK.out
          have V2 : Hid (IsU wr w.heap.size u9 us) := R1.out.next NZ.out
          have J2 : Hid (Vs wr w.heap.size us rs) := R3.out.mv fun g' C hg' => blk11 NZ.out hg'
          have GW : Hid (w.heap.size ≤ g) := by show w.heap.size ≤ g; have := hg.out; have := R6.out.size; omega
          obtain ⟨c0, c1, -⟩ := MC.out _ B0.out
          have hi := HI.out x HXm.out
          rw [← KE.out] at RC RV
          have LT9 : Hid (∀ (k : Nat) (u : Vq), us[k]? = some u → u.g < g) := fun k9 u hu => by have := R3.out.lt k9 u hu; have := hg.out; omega
          clear HL hK R1 R3
          go_wp2_with fail
          obtain ⟨gp, hgp⟩ : ∃ gp, Hid (gp = gpB x) := ⟨_, rfl⟩
          rw [← hgp.out] at RC RV
          have GP := gap12_any x.i x.s x.b wr hi.1 hi.2
          rw [show gapB x.i x.s x.b = gp from hgp.out.symm] at GP
          refine GP.mono ?_
          rintro e w3 ⟨rfl, hb3⟩
          clear GP c0 c1 c2
          have B3 : Hid (Below w.heap.size w w3) := Below.andThen B0.out hb3
          have N3 : Hid (Below wr.heap.size wr w3) := hb3
          obtain ⟨e0, e1, -⟩ := MC.out _ B3.out
          clear hb3
          cases gp with
          | true =>
            have FR : Hid (IsU w3 w.heap.size u9 us ∧ us.length ≤ k + 1 ∧ Vs w3 w.heap.size us rs ∧ RES = unC mc zs (ms.drop (k + 1)) K ∧ ROWS = rs ++ unV zs (ms.drop (k + 1)) K ∧ Below w.heap.size w w3) := by
              refine ⟨V2.out.next N3.out, by have := R2.out; omega, J2.out.mv fun g' C hg' => blk11 N3.out hg', ?_, ?_, B3.out⟩
              · rw [RC.out]; simp
              · rw [RV.out]; simp
            clear RC RV e0 e1
            go_wp2_with fail
            exact ⟨⟨k + 1, K, us, rs, by omega, by go_num, rfl, KS.out, FR.out⟩, by simp [intOf]; omega⟩
          | false =>
            obtain ⟨y, hy⟩ : ∃ y, Hid (y = mc x (tkB zs sk x.b)) := ⟨_, rfl⟩
            rw [← hy.out] at RC
            have MY := HY.out w3 B3.out x HXm.out hgp.out.symm (tkB zs sk x.b) g (tkB_len _ _ _) OT.out (blk11 N3.out GT.out)
            rw [← hy.out, ← hr8.out] at MY
            go_wp2_with fail
            refine MY.mono ?_
            clear MY e0 e1
            rintro e w4 ⟨tg, rfl, hb4⟩
            have B4 : Hid (Below w.heap.size w w4) := Below.andThen B3.out hb4
            have N4 : Hid (Below wr.heap.size wr w4) := Below.andThen N3.out hb4
            obtain ⟨f0, f1, -⟩ := MC.out _ B4.out
            have V4 : Hid (IsU w4 w.heap.size u9 us) := V2.out.next N4.out
            clear hb4
            by_cases hy0 : y = 0
            case neg =>
              have FR : Hid (∀ e, e = .returned (.tuple #[.slice none 0 0, .int .u32 y]) → UPostD w RES ROWS e w4) := fun e he => by
                have hres : RES = y := by rw [RC.out]; simp [hy0]
                exact ⟨.inl ⟨by rw [hres]; exact hy0, by rw [hres]; exact he⟩, B4.out⟩
              clear RC RV f0 f1
              go_wp2_with fail
              go_ret2
              exact FR.out _ rfl
            subst hy0
            have RC2 : Hid (RES = unC mc zs (ms.drop (k + 1)) K) := by show _ = _; rw [RC.out]; simp
            have RV2 : Hid (ROWS = (rs ++ [(x.i, x.s, tkB zs sk x.b)]) ++ unV zs (ms.drop (k + 1)) K) := by show _ = _; rw [RV.out]; simp
            clear RC RV
            have hul : us.length ≤ 1000000 := by have := R2.out; omega
            go_wp2_with (first | (at_builtin; refine wpList_append_val2 rfl _ _ rfl w.heap.size u9 us rfl (V4.out.next (by repeat (first | exact Below.refl _ _ | apply Below.drew | apply Below.al))) ⟨w4.heap.size, 0, none⟩ ⟨x.i, x.s, g, r8⟩ rfl ?q1 hul ?q2 ?_) | go_in)
            case q1 =>
              intro j u hj
              rw [Addr.add_lit, Nat.zero_add]
              match j, hj with
              | 0, hj => rw [cell_of_row _ _ 0 _ _ _ (at11 _ _ _ rfl)]; simpa [Vq.L] using hj
              | 1, hj => rw [cell_of_row _ _ 1 _ _ _ (at11 _ _ _ rfl)]; simpa [Vq.L] using hj
              | 2, hj => rw [cell_of_row _ _ 2 _ _ _ (at11 _ _ _ rfl)]; simpa [Vq.L] using hj
            case q2 => have := B4.out.size; simp; omega
            intro v' z hz hgr
            have KEEP : ∀ (b : Nat) (C : Array Value) (T : TypeId) (f : Nat × Nat), w4.heap[b]? = some (.cells C T f) → T ≠ 46 → z.heap[b]? = some (.cells C T f) := fun b C T f hb hT => by
              rw [hgr.block b (by have := lt_of_heap hb; simp; omega) (V4.out.ne hb hT), Below.heap_alloc _ _ _ (lt_of_heap hb)]
              exact hb
            have BZ : Hid (Below w.heap.size w z) := ⟨hgr.os.trans B4.out.os, hgr.tape.trans B4.out.tape, hgr.output.trans B4.out.output, by have := hgr.size; simp at this; have := B4.out.size; omega, fun kk hkk => by
              have s4 := B4.out.size
              rw [hgr.block kk (by simp; omega) (fun e => by have := (V4.out.lt kk e.symm).1; omega), Below.heap_alloc _ _ _ (by omega)]
              exact B4.out.block kk hkk⟩
            have FIN : Hid (IsU z w.heap.size v' (us ++ [⟨x.i, x.s, g, r8⟩]) ∧ (us ++ [(⟨x.i, x.s, g, r8⟩ : Vq)]).length ≤ k + 1 ∧ Vs z w.heap.size (us ++ [(⟨x.i, x.s, g, r8⟩ : Vq)]) (rs ++ [(x.i, x.s, tkB zs sk x.b)]) ∧ RES = unC mc zs (ms.drop (k + 1)) K ∧ ROWS = (rs ++ [(x.i, x.s, tkB zs sk x.b)]) ++ unV zs (ms.drop (k + 1)) K ∧ Below w.heap.size w z) := by
              refine ⟨hz, by have := R2.out; simp; omega, ?_, RC2.out, RV2.out, BZ.out⟩
              rw [hr8.out]
              exact (J2.out.mv fun g' C hg' => KEEP _ _ _ _ (blk11 N4.out hg') (by decide)).app (tkB_len _ _ _) GW.out LT9.out (KEEP _ _ _ _ (blk11 N4.out GT.out) (by decide))
            clear hz hgr KEEP f0 f1
            go_wp2_with fail
            exact ⟨⟨k + 1, K, _, _, by omega, by go_num, rfl, KS.out, FIN.out⟩, by simp [intOf]; omega⟩
    · obtain rfl : k = N := by omega
      obtain ⟨r1, r2, r3, rC, rV, r6⟩ := HR.out
      have FR : Hid (∀ e, e = .returned (.tuple #[u9, .int .u32 0]) → UPostD w RES ROWS e wr) := fun e he => by
        rw [List.drop_of_length_le (by omega)] at rC rV
        exact ⟨.inr ⟨rC, u9, us, he, r1, by rw [rV]; simp only [unV, List.append_nil]; exact r3⟩, r6⟩
      clear r1 r2 r3 rC rV r6 HR
      go_wp2_with fail
      go_ret2
      exact FR.out _ rfl
#print axioms runpack_O
end Go.Proofs.YtajllkkbgpijiaaGreatDoor
namespace Go.Proofs.YtajllkkbgpijiaaGreatDoor
open Go.RowKit

set_option linter.unusedSimpArgs false in
set_option maxHeartbeats 4000000 in
set_option maxRecDepth 100000 in
theorem unpack_fail (pv mv : Value) (a : Option Addr) (len capb : Nat) (code : Int) (hc : code ≠ 0) (w : World) (HC : ∀ W, Below w.heap.size w W → Calls Tryz.prog 18 #[pv, mv, .bool false] W fun e w' => e = .returned (.int .u32 code) ∧ Below W.heap.size W w') :
    Calls Tryz.prog 7 #[pv, mv, .slice a len capb] w fun e w' => e = .returned (.tuple #[.slice none 0 0, .int .u32 code]) ∧ Below w.heap.size w w' := by
  have HCC : Hid (∀ W, Below w.heap.size w W → Calls Tryz.prog 18 #[pv, mv, .bool false] W fun e w' => e = .returned (.int .u32 code) ∧ Below W.heap.size W w') := HC
  clear HC
  go_enter Tryz.func7, Tryz.ntmps7
  go_wp2_with fail
  refine (HCC.out _ (by repeat (first | exact Below.refl _ _ | apply Below.drew | apply Below.al))).mono ?_
  rintro e w1 ⟨rfl, hb1⟩
  have B1 : Hid (Below w.heap.size w w1) := Below.andThen (by repeat (first | exact Below.refl _ _ | apply Below.drew | apply Below.al)) hb1
  clear hb1
  go_wp2_with fail
  go_ret2
  exact ⟨rfl, B1.out⟩
set_option linter.unusedSimpArgs false in
set_option maxHeartbeats 4000000 in
set_option maxRecDepth 100000 in
theorem runpack_fail (pv mv bv : Value) (code : Int) (hc : code ≠ 0) (w : World) (HC : Calls Tryz.prog 26 #[pv, mv, .bool false] w fun e w' => e = .returned (.int .u32 code) ∧ Below w.heap.size w w') :
    Calls Tryz.prog 8 #[pv, mv, bv] w fun e w' => e = .returned (.tuple #[.slice none 0 0, .int .u32 code]) ∧ Below w.heap.size w w' := by
  have HCC : Hid (Calls Tryz.prog 26 #[pv, mv, .bool false] w fun e w' => e = .returned (.int .u32 code) ∧ Below w.heap.size w w') := HC
  clear HC
  go_enter Tryz.func8, Tryz.ntmps8
  go_wp2_with fail
  refine HCC.out.mono ?_
  rintro e w1 ⟨rfl, hb1⟩
  go_wp2_with fail
  go_ret2
  exact ⟨rfl, hb1⟩
set_option linter.unusedSimpArgs false in
set_option maxHeartbeats 4000000 in
set_option maxRecDepth 100000 in
theorem runpack_short (pv : Value) (ad : Option Addr) (gm off N cap : Nat) (ms : List Mq) (a : Option Addr) (len capb : Nat) (w : World) (hN : ms.length = N) (had : 0 < N → ad = some ⟨gm, off, none⟩) (h64 : N ≤ 64) (hM : MsO w gm off ms) (HC : Calls Tryz.prog 26 #[pv, .slice ad N cap, .bool false] w fun e w' => e = .returned (.int .u32 0) ∧ Below w.heap.size w w') (hs : sumB ms N ≤ 64) (hlen : len < (sumB ms N + 7) / 8) :
    Calls Tryz.prog 8 #[pv, .slice ad N cap, .slice a len capb] w fun e w' => e = .returned (.tuple #[.slice none 0 0, .int .u32 101122064]) ∧ Below w.heap.size w w' := by
  obtain ⟨R, hR⟩ : ∃ R, Hid (R = (sumB ms N + 7) / 8) := ⟨_, rfl⟩
  have HCC : Hid (Calls Tryz.prog 26 #[pv, .slice ad N cap, .bool false] w fun e w' => e = .returned (.int .u32 0) ∧ Below w.heap.size w w') := HC
  have HS : Hid (∀ W, Below w.heap.size w W → Calls Tryz.prog 27 #[.slice ad N cap] W fun e w' => e = .returned (.int .i64 (R : Int)) ∧ Below W.heap.size W w') := fun W hb => by rw [hR.out]; exact rsize_O ad gm off N cap had ms W hN h64 (hM.next hb) hs
  have hRl : (len : Int) < (R : Int) := by have := hR.out; omega
  clear hM HC had
  go_enter Tryz.func8, Tryz.ntmps8
  go_wp2_with fail
  refine HCC.out.mono ?_
  rintro e w1 ⟨rfl, hb1⟩
  have B1 : Hid (Below w.heap.size w w1) := hb1
  clear hb1 HCC
  go_wp2_with fail
  refine (HS.out _ B1.out).mono ?_
  rintro e w2 ⟨rfl, hb2⟩
  have B2 : Hid (Below w.heap.size w w2) := Below.andThen B1.out hb2
  clear hb2 HS
  go_wp2_with fail
  go_ret2
  exact ⟨rfl, B2.out⟩

theorem sumB_mem {l : List Mq} {n N : Nat} (h : sumB l n ≤ N) (hn : l.length = n) {y : Mq} (hy : y ∈ l) : y.b ≤ N := by
  obtain ⟨k, hk, he⟩ := List.getElem_of_mem hy
  have h1 := sumB_succ (ms := l) (k := k) (x := y) (by rw [List.getElem?_eq_getElem hk, he])
  have h2 := sumB_le l (show k + 1 ≤ n by omega)
  omega
/-- Both unpack the same. -/
structure UnTwo (w : World) (R : World → Prop) (ms : List Mz) (dp mp : Value) (zs : List Int) (RES : Int) (ROWS : List (Int × Int × List Int)) : Prop where
  o : RES = 0 → ∀ r ∈ ROWS, Oct r.2.2 ∧ r.2.2.length ≤ 8
  l : ROWS.length ≤ 100
  p : ∀ W, Below w.heap.size w W → ∀ (a : Option Addr) (G off cap : Nat), (0 < ms.length → a = some ⟨G, off, none⟩) → MzAt W G off ms → ∀ (ab : Option Addr) (cb : Nat), Row W ab zs.length zs → Calls Tryz.prog 7 #[dp, .slice a ms.length cap, .slice ab zs.length cb] W (UPost W RES ROWS)
  r : ∀ W, R W → ∀ (a : Option Addr) (G off cap : Nat), (0 < ms.length → a = some ⟨G, off, none⟩) → MzAt W G off ms → ∀ (ab : Option Addr) (cb : Nat), Row W ab zs.length zs → Calls Tryz.prog 8 #[mp, .slice a ms.length cap, .slice ab zs.length cb] W (UPostD W RES ROWS)

theorem rmayC {w : World} {q : Nat} {v : Value} {xs : List Xi} {nn : Int} {I : Int → Int → Option It} (h : DocI w q v xs nn I) (lst : Mp) {x : Mz} (hx : cfI I false x = true) (hb0 : 0 ≤ x.b) (hb64 : x.b ≤ 64) (hg : gpB x.q = false) (W : World) (hW : Below w.heap.size w W) (zb : List Int) (g : Nat) (hl : zb.length = (x.q.b + 7) / 8) (hO : Oct zb) (hh : W.heap[g]? = some (.cells (zb.map (Value.int .u8)).toArray 5 (0, 0))) :
    Calls Tryz.prog 30 #[.pointer (some ⟨q, 0, none⟩), plV x.i x.s, .slice (some ⟨g, 0, none⟩) ((x.q.b + 7) / 8) ((x.q.b + 7) / 8)] W fun e w' => ∃ tg, e = .returned (.tuple #[.int .u8 tg, .int .u32 (mcI lst I x.q zb)]) ∧ Below W.heap.size W w' := by
  rw [gpB_q hb0] at hg
  unfold cfI at hx
  rw [hg] at hx
  cases hy : I x.i x.s with
  | none => rw [hy] at hx; simp at hx
  | some y =>
    rw [hy] at hx
    have hr : (bits .and .u8 y.rt 2 != 0) = true := by
      simp [rgt] at hx
      simpa using hx.2
    have h8 : (x.q.b + 7) / 8 ≤ 8 := by show (x.b.toNat + 7) / 8 ≤ 8; omega
    have := rmay_I q v xs nn I x.i x.s y (some ⟨g, 0, none⟩) _ _ zb W (h.next hW) hy hr ⟨row_own hl hO hh, Nat.le_refl _, by unfold maxLen; omega⟩
    have e : mcI lst I x.q zb = Ty.chkN y.t zb y.zl y.zh := by
      show mayK lst I x.i x.s zb = _
      unfold mayK
      rw [hy]
      simp only
      rw [if_pos hr]
    rw [e]
    exact this
theorem un_fails {W : World} {e : Ending} {w' : World} {code : Int} (hc : code ≠ 0) (h : e = .returned (.tuple #[.slice none 0 0, .int .u32 code]) ∧ Below W.heap.size W w') (R : List (Int × Int × List Int)) : UPost W code R e w' := ⟨.inl ⟨hc, h.1⟩, h.2⟩
theorem run_fails {W : World} {e : Ending} {w' : World} {code : Int} (hc : code ≠ 0) (h : e = .returned (.tuple #[.slice none 0 0, .int .u32 code]) ∧ Below W.heap.size W w') (R : List (Int × Int × List Int)) : UPostD W code R e w' := ⟨.inl ⟨hc, h.1⟩, h.2⟩
/-- Of dictionaries of which Check tells the same: where May tells the same, Unpack does. -/
theorem un_gen {w : World} {ms : List Mz} {dp mp : Value} {cf : Bool → Mz → Int} {R : World → Prop} (hR : ∀ W W', R W → Below W.heap.size W W' → R W') (hi : ∀ x ∈ ms, 0 ≤ x.i ∧ x.i < 65536) (TW : ChkTwo w ms dp mp fun out => if 64 < ms.length then 100925506 else chkZ (cf out) ms 0) (TR : ∀ W, R W → ∀ (a : Option Addr) (G off cap : Nat), (0 < ms.length → a = some ⟨G, off, none⟩) → MzAt W G off ms → Calls Tryz.prog 26 #[mp, .slice a ms.length cap, .bool false] W fun e w' => e = .returned (.int .u32 (if 64 < ms.length then 100925506 else chkZ (cf false) ms 0)) ∧ Below W.heap.size W w') {zs : List Int} (hz : Oct zs) (hzl : zs.length ≤ 1000) (mc : Mq → List Int → Int)
    (HP : ∀ x ∈ ms, cf false x = 0 → gpB x.q = false → ∀ W, Below w.heap.size w W → ∀ zb g, zb.length = (x.q.b + 7) / 8 → Oct zb → W.heap[g]? = some (.cells (zb.map (Value.int .u8)).toArray 5 (0, 0)) → Calls Tryz.prog 25 #[dp, plV x.i x.s, .slice (some ⟨g, 0, none⟩) ((x.q.b + 7) / 8) ((x.q.b + 7) / 8)] W fun e w' => ∃ tg, e = .returned (.tuple #[.int .u8 tg, .int .u32 (mc x.q zb)]) ∧ Below W.heap.size W w')
    (HR : ∀ x ∈ ms, cf false x = 0 → gpB x.q = false → ∀ W, R W → ∀ zb g, zb.length = (x.q.b + 7) / 8 → Oct zb → W.heap[g]? = some (.cells (zb.map (Value.int .u8)).toArray 5 (0, 0)) → Calls Tryz.prog 30 #[mp, plV x.i x.s, .slice (some ⟨g, 0, none⟩) ((x.q.b + 7) / 8) ((x.q.b + 7) / 8)] W fun e w' => ∃ tg, e = .returned (.tuple #[.int .u8 tg, .int .u32 (mc x.q zb)]) ∧ Below W.heap.size W w') :
    ∃ RES ROWS, UnTwo w R ms dp mp zs RES ROWS ∧ (RES = 0 → (∀ x ∈ ms, cf false x = 0) ∧ unC mc zs (ms.map Mz.q) 0 = 0 ∧ ROWS = unV zs (ms.map Mz.q) 0) := by
  obtain ⟨CD, hCD⟩ : ∃ CD : Int, CD = if 64 < ms.length then 100925506 else chkZ (cf false) ms 0 := ⟨_, rfl⟩
  by_cases hc : CD = 0
  · have hcd : (if 64 < ms.length then 100925506 else chkZ (cf false) ms 0 : Int) = 0 := by rw [← hCD]; exact hc
    obtain ⟨z1, z2, z3⟩ := TW.z false hcd
    have zf : ∀ x ∈ ms, cf false x = 0 := by
      rw [if_neg (by omega)] at hcd
      exact (chkZ_zero _ ms 0 hcd (by decide)).1
    have CP := fun W hW a G off cap had hM => TW.p W hW false a G off cap had hM
    have CR := fun W hW a G off cap had hM => TR W hW a G off cap had hM
    simp only [hcd] at CP CR
    have hiq : ∀ y ∈ ms.map Mz.q, 0 ≤ y.i ∧ y.i < 65536 := fun y hy => by obtain ⟨x, hx, rfl⟩ := List.mem_map.1 hy; exact hi x hx
    by_cases hlt : zs.length < (sumB (ms.map Mz.q) ms.length + 7) / 8
    · refine ⟨101122064, [], ⟨fun h => absurd h (by decide), by simp, fun W hW a G off cap had hM ab cb hr => ?_, fun W hW a G off cap had hM ab cb hr => ?_⟩, fun h => absurd h (by decide)⟩
      · exact (unpack_shortO _ a G off ms.length cap (ms.map Mz.q) ab zs.length cb W (by simp) had z1 (hM.o z2) (fun W' hW' => CP W' (Below.andThen hW hW') a G off cap had (hM.next hW')) z3 hlt).mono fun e w' hh => un_fails (by decide) hh _
      · exact (runpack_short _ a G off ms.length cap (ms.map Mz.q) ab zs.length cb W (by simp) had z1 (hM.o z2) (CR W hW a G off cap had hM) z3 hlt).mono fun e w' hh => run_fails (by decide) hh _
    · refine ⟨unC mc zs (ms.map Mz.q) 0, unV zs (ms.map Mz.q) 0, ⟨fun hu r hr => ?_, ?_, fun W hW a G off cap had hM ab cb hr => ?_, fun W hW a G off cap had hM ab cb hr => ?_⟩, fun hu => ⟨zf, hu, rfl⟩⟩
      · obtain ⟨ho, y, hy, _, _, _, hl⟩ := unC_rows mc zs hz _ _ hu r hr
        obtain ⟨x, hx, rfl⟩ := List.mem_map.1 hy
        have h1 := sumB_mem z3 (by simp) (List.mem_map.2 ⟨x, hx, rfl⟩)
        exact ⟨ho, by omega⟩
      · have := unV_le zs (ms.map Mz.q) 0
        rw [List.length_map] at this
        omega
      · refine unpack_O _ a G off ms.length cap (ms.map Mz.q) mc ab zs.length cb zs W (by simp) had z1 (hM.o z2) hiq (fun W' hW' => CP W' (Below.andThen hW hW') a G off cap had (hM.next hW')) z3 hr (by omega) hzl (fun W' hW' y hy hg zb g hl hO hh => ?_)
        obtain ⟨x, hx, rfl⟩ := List.mem_map.1 hy
        exact HP x hx (zf x hx) hg W' (Below.andThen hW hW') zb g hl hO hh
      · refine runpack_O _ a G off ms.length cap (ms.map Mz.q) mc ab zs.length cb zs W (by simp) had z1 (hM.o z2) hiq (CR W hW a G off cap had hM) z3 hr (by omega) (fun W' hW' y hy hg zb g hl hO hh => ?_)
        obtain ⟨x, hx, rfl⟩ := List.mem_map.1 hy
        exact HR x hx (zf x hx) hg W' (hR W W' hW hW') zb g hl hO hh
  · have CP := fun W hW a G off cap had hM => TW.p W hW false a G off cap had hM
    have CR := fun W hW a G off cap had hM => TR W hW a G off cap had hM
    simp only [← hCD] at CP CR
    refine ⟨CD, [], ⟨fun h => absurd h hc, by simp, fun W hW a G off cap had hM ab cb hr => ?_, fun W hW a G off cap had hM ab cb hr => ?_⟩, fun h => absurd h hc⟩
    · exact (unpack_fail _ _ ab zs.length cb CD hc W fun W' hW' => CP W' (Below.andThen hW hW') a G off cap had (hM.next hW')).mono fun e w' hh => un_fails hc hh _
    · exact (runpack_fail _ _ _ CD hc W (CR W hW a G off cap had hM)).mono fun e w' hh => run_fails hc hh _
/-- What the document's Check tells, of its dictionary as it was made. -/
theorem rchk_I {es : List Em} {w : World} {p m : Nat} {lst : Mp} {q : Nat} {v : Value} {xs : List Xi} (h : BothD es w p m lst q v xs) {ms : List Mz} (hi : ∀ x ∈ ms, 0 ≤ x.i ∧ x.i < 65536) {I : Int → Int → Option It} (W : World) (hD : DocI W q v xs 0 I) (out : Bool) (a : Option Addr) (G off cap : Nat) (had : 0 < ms.length → a = some ⟨G, off, none⟩) (hM : MzAt W G off ms) :
    Calls Tryz.prog 26 #[.pointer (some ⟨q, 0, none⟩), .slice a ms.length cap, .bool out] W fun e w' => e = .returned (.int .u32 (if 64 < ms.length then 100925506 else chkZ (cfD lst out) ms 0)) ∧ Below W.heap.size W w' := by
  by_cases h6 : 64 < ms.length
  · rw [if_pos h6]
    exact (rcheck_many out _ _ ms.length cap W h6).mono fun e w' ⟨h1, h2⟩ => ⟨h1, by rw [h2]; exact Below.refl _ _⟩
  · rw [if_neg h6]
    refine rcheck_gen out _ (cfD lst out) a G off ms.length cap had ms W rfl (by omega) hM (fun x _ hx => by have := cfD_bd hx; omega) fun W' hb x hx => ?_
    obtain ⟨b, hxx⟩ := (hD.next hb).hx
    obtain ⟨lo, hbu⟩ := h.hb
    refine (one_any q v 0 xs b out x W' (hD.next hb).hq hxx (by have := hD.hl; omega) (hi x hx).1 (hi x hx).2).mono ?_
    rintro e w' ⟨⟨c, hc, rfl⟩, hb'⟩
    exact ⟨by rw [codes_same hbu h.hd h.hi h.hs hc], hb'⟩
/-- Of dictionaries of entries that may be. -/
theorem un_some {es : List Em} {w : World} {p m : Nat} {lst : Mp} {q : Nat} {v : Value} {xs : List Xi} (h : BothD es w p m lst q v xs) (hc : newC es = 0) (hT : Ty.Tab64 w) {ms : List Mz} (hi : ∀ x ∈ ms, 0 ≤ x.i ∧ x.i < 65536) {zs : List Int} (hz : Oct zs) (hzl : zs.length ≤ 1000) :
    ∃ RES ROWS, UnTwo w (fun W => DocI W q v xs 0 (itE es)) ms (.pointer (some ⟨p, 0, none⟩)) (.pointer (some ⟨q, 0, none⟩)) zs RES ROWS ∧ (RES = 0 → ∀ r ∈ ROWS, mayI (itE es) r.1 r.2.1 r.2.2) := by
  obtain ⟨lo, hbu⟩ := h.hb
  have hI : ItD w lst (itE es) := built_dic hbu hc fun e he => (h.hg e he).1
  obtain ⟨RES, ROWS, U, hU⟩ := un_gen (R := fun W => DocI W q v xs 0 (itE es)) (cf := cfD lst) (fun W W' hd hb => hd.next hb) hi (two_some h hi) (fun W hD a G off cap had hM => rchk_I h hi W hD false a G off cap had hM) hz hzl (mcI lst (itE es))
    (fun x hx hcf hg W hW zb g hl hO hh => mayC_I p m 0 lst (itE es) w h.hp h.hm hI hT x hcf hg W hW zb g hl hO hh)
    (fun x hx hcf hg W hW zb g hl hO hh => by
      have hb := cfD_bd hcf
      exact rmayC hW lst ((cfD_cfI hI false x).1 hcf) hb.1 hb.2 hg W (Below.refl _ _) zb g hl hO hh)
  refine ⟨RES, ROWS, U, fun h0 r hr => ?_⟩
  obtain ⟨h1, h2, rfl⟩ := hU h0
  obtain ⟨-, x, hx, q1, q2, q3, -⟩ := unC_rows (mcI lst (itE es)) zs hz _ _ h2 r hr
  rw [q1, q2]
  exact mayK_I (lst := lst) q3
/-- Of none. -/
theorem un_none (w : World) {ms : List Mz} (hi : ∀ x ∈ ms, 0 ≤ x.i ∧ x.i < 65536) {zs : List Int} (hz : Oct zs) (hzl : zs.length ≤ 1000) :
    ∃ RES ROWS, UnTwo w (fun W => Below w.heap.size w W) ms (.pointer none) (.pointer none) zs RES ROWS ∧ (RES = 0 → ROWS = []) := by
  have no : ∀ x : Mz, cfN false x = 0 → gpB x.q = false → False := fun x h hg => by
    have hb := cfN_bd h
    rw [gpB_q hb.1] at hg
    unfold cfN at h
    rw [if_neg (by rw [hg]; decide)] at h
    cases h
  obtain ⟨RES, ROWS, U, hU⟩ := un_gen (R := fun W => Below w.heap.size w W) (cf := cfN) (fun W W' hd hb => Below.andThen hd hb) hi (two_none w hi) (fun W hW a G off cap had hM => (two_none w hi).r W hW false a G off cap had hM) hz hzl (fun _ _ => 0)
    (fun x hx hcf hg => absurd hg (fun h => no x hcf h)) (fun x hx hcf hg => absurd hg (fun h => no x hcf h))
  refine ⟨RES, ROWS, U, fun h0 => ?_⟩
  obtain ⟨h1, h2, rfl⟩ := hU h0
  have none : ∀ (l : List Mq) (n : Nat), (∀ y ∈ l, gpB y = true) → unV zs l n = [] := fun l => by
    induction l with
    | nil => intro n _; rfl
    | cons y l ih =>
      intro n hy
      simp only [unV]
      rw [if_pos (hy y List.mem_cons_self)]
      exact ih _ fun z hz => hy z (List.mem_cons_of_mem _ hz)
  refine none _ 0 fun y hy => ?_
  obtain ⟨x, hx, rfl⟩ := List.mem_map.1 hy
  cases hg : gpB x.q with
  | true => rfl
  | false => exact (no x (h1 x hx) hg).elim
#print axioms un_gen
#print axioms un_some
#print axioms un_none
#print axioms rmayC
end Go.Proofs.YtajllkkbgpijiaaGreatDoor
namespace Go.Proofs.YtajllkkbgpijiaaGreatDoor
open Go.RowKit

/-- The program's dictionary, its slices off a block. -/
def DicO (r : Option Nat) (wr : World) (p m : Nat) (cg : Int) (I : Int → Int → Option It) : Prop := ∃ lst, wr.heap[p]? = some (.cells #[.map (some m), .int .i64 cg] 91 (0, 0)) ∧ IsM wr m lst ∧ ItD wr lst I ∧ Ty.Tab64 wr ∧ OffD lst r
theorem DicO.next {r : Option Nat} {w w' : World} {p m : Nat} {cg : Int} {I : Int → Int → Option It} (h : DicO r w p m cg I) (hb : Below w.heap.size w w') : DicO r w' p m cg I := by
  obtain ⟨lst, h1, h2, h3, h4, h5⟩ := h
  exact ⟨lst, blk11 hb h1, h2.next hb, h3.next hb, tab_next h4 hb, h5⟩
theorem DicO.lt {r : Option Nat} {w : World} {p m : Nat} {cg : Int} {I : Int → Int → Option It} (h : DicO r w p m cg I) : p < w.heap.size ∧ m < w.heap.size := by
  obtain ⟨lst, h1, h2, h3, _⟩ := h
  exact ⟨lt_of_heap h1, h2.lt⟩
theorem DicO.write {r : Option Nat} {w : World} {p m : Nat} {cg : Int} {I : Int → Int → Option It} (h : DicO r w p m cg I) (hr9 : ∀ g, r = some g → g < w.heap.size) (i s : Int) (b : Option Addr) (lb cb : Nat) (zb : List Int) (rb : SlOk w b lb cb zb) (hlb : lb ≤ 16777216) (hc0 : 0 ≤ cg) (hc1 : cg < 4611686018427387904) (hne : p ≠ m) (hmay : mayI I i s zb) :
    Calls Tryz.prog 31 #[.pointer (some ⟨p, 0, none⟩), plV i s, .slice b lb cb] w fun e w' => e = .returned (.int .u32 0) ∧ DicO r w' p m (cg + 1) (putI I i s zb) ∧ Kp [p, m] w w' := by
  obtain ⟨lst, hp, hm, hI, hT, hO⟩ := h
  obtain ⟨x9, hx9, hr, hc⟩ := hmay
  rcases hI i s with ⟨h1, h2⟩ | ⟨x, hx, nm, d, ld, cd, l, ll, cl, h, lh, ch, gr, v, lv, cv, zd, e, r1, r2, r3, r4, g1, g2, g3, g4, g5⟩
  · rw [hx9] at h2; cases h2
  · rw [hx9] at hx
    cases hx
    refine (write_at p m cg lst i s nm x9.t x9.rt d ld cd l ll cl h lh ch x9.tg gr v lv cv b lb cb zb x9.zl x9.zh w hp hm e rb r2 r3 hT hr hc hlb hc0 hc1 hne).mono ?_
    rintro e' w' ⟨he, a', c', k1, k2, k3, k4⟩
    refine ⟨he, ⟨_, k2, k3, fun j r => ?_, tab_kpD hT hp hm k1, ?_⟩, k1⟩
    · rw [lookP_put]
      unfold putI
      by_cases hj : (j == i && r == s) = true
      · obtain ⟨q1, q2⟩ : j = i ∧ r = s := by simpa using hj
        rw [if_pos hj, if_pos hj, hx9, q1, q2]
        exact .inr ⟨{ x9 with zv := zb }, rfl, nm, d, ld, cd, l, ll, cl, h, lh, ch, gr, a', lb, c', zd, rfl, r1.kpD hp hm k1, r2.kpD hp hm k1, r3.kpD hp hm k1, k4.sl, g1, g2, g3, hlb, fun hs => by rw [← chkN_size hc hs, rb.row.size]⟩
      · rw [if_neg hj, if_neg hj]
        rcases hI j r with h | ⟨x, hx, nm, d, ld, cd, l, ll, cl, h, lh, ch, gr, v, lv, cv, zd, e, r1, r2, r3, r4, g⟩
        · exact .inl h
        · exact .inr ⟨x, hx, nm, d, ld, cd, l, ll, cl, h, lh, ch, gr, v, lv, cv, zd, e, r1.kpD hp hm k1, r2.kpD hp hm k1, r3.kpD hp hm k1, r4.kpD hp hm k1, g⟩
    · intro j r nm' t' rt' d' ld' cd' l' ll' cl' h' lh' ch' tg' gr' v' lv' cv' hl
      rw [lookP_put] at hl
      by_cases hj : (j == i && r == s) = true
      · rw [if_pos hj] at hl
        have o := hO i s _ _ _ _ _ _ _ _ _ _ _ _ _ _ _ _ _ e
        cases hl
        refine ⟨o.1, o.2.1, o.2.2.1, fun hl b off e9 h9 => ?_⟩
        obtain ⟨g, e', hg, _⟩ := k4.own hl
        rw [e9] at e'
        cases e'
        have := hr9 b h9
        omega
      · rw [if_neg hj] at hl
        exact hO _ _ _ _ _ _ _ _ _ _ _ _ _ _ _ _ _ _ _ hl
set_option linter.unusedSimpArgs false in
set_option maxHeartbeats 4000000 in
set_option maxRecDepth 100000 in
theorem wr_O (p m : Nat) (cg : Int) (I : Int → Int → Option It) (r9 : Option Nat) (mv bv : Value) (RW : List (Int × Int × List Int)) (w : World) (hD : DicO r9 w p m cg I) (hr9 : ∀ g, r9 = some g → g < w.heap.size) (hne : p ≠ m) (hc0 : 0 ≤ cg) (hc1 : cg < 4611686018427387000)
    (HU : Calls Tryz.prog 7 #[.pointer (some ⟨p, 0, none⟩), mv, bv] w (UPost w 0 RW)) (hRN : RW.length ≤ 100) (hRM : ∀ r ∈ RW, Oct r.2.2 ∧ r.2.2.length ≤ 8 ∧ mayI I r.1 r.2.1 r.2.2) :
    Calls Tryz.prog 10 #[.pointer (some ⟨p, 0, none⟩), mv, bv] w fun e w' => e = .returned (.int .u32 0) ∧ DicO r9 w' p m (cg + (RW.length : Nat)) (putA I RW) ∧ Kp [p, m] w w' := by
  obtain ⟨N, hN⟩ : ∃ N, Hid (N = RW.length) := ⟨_, rfl⟩
  have hN64 : N ≤ 100 := by rw [hN.out]; exact hRN
  have RM : Hid (∀ r ∈ RW, Oct r.2.2 ∧ r.2.2.length ≤ 8 ∧ mayI I r.1 r.2.1 r.2.2) := hRM
  have D0 : Hid (DicO r9 w p m cg I) := hD
  have HR9 : Hid (∀ g, r9 = some g → g < w.heap.size) := hr9
  have HUU : Hid (Calls Tryz.prog 7 #[.pointer (some ⟨p, 0, none⟩), mv, bv] w (UPost w 0 RW)) := HU
  clear HU hRM hD hr9 hRN
  rw [← hN.out]
  go_enter Tryz.func10, Tryz.ntmps10
  go_wp2_with fail
  refine HUU.out.mono ?_
  rintro e w1 hU
  obtain ⟨va, vc, us, rfl, hus, hva, hv, hs, hb⟩ := hU.form RW (by rw [if_pos rfl])
  rw [← hN.out] at hus hva ⊢
  have V1 : Hid (IsV w1 w.heap.size (.slice va us.length vc) us) := hv
  have S1 : Hid (Vs w1 w.heap.size us RW) := hs
  have UL : Hid (us.length = N) := hus
  have VA : Hid (0 < N → ∃ g, va = some ⟨g, 0, none⟩) := hva
  have B1 : Hid (Below w.heap.size w w1) := hb
  have D1 : Hid (DicO r9 w1 p m cg I) := D0.out.next hb
  have DL : Hid (p < w.heap.size ∧ m < w.heap.size) := D0.out.lt
  have BS : Hid (w.heap.size ≤ w1.heap.size) := hb.size
  clear hU hv hs hb hus hva HUU
  go_wp2_with fail
  go_loopw [23] (fun iv wr => ∃ k : Nat, k ≤ N ∧ iv = .int .i64 (k : Int) ∧ Hid (DicO r9 wr p m (cg + k) (putA I (RW.take k)) ∧ Kp [p, m] w1 wr)) (fun iv _ => N - (intOf iv).toNat)
  case atStart => exact ⟨0, Nat.zero_le _, rfl, by simpa [putA] using D1.out, Kp.refl _ _⟩
  case round =>
    obtain ⟨k, hk, rfl, HR⟩ := hrel
    have HK : Hid (Kp [p, m] w1 wr) := HR.out.2
    have HD : Hid (DicO r9 wr p m (cg + k) (putA I (RW.take k))) := HR.out.1
    clear HR
    by_cases hkN : k < N
    · have gk : (k : Int) < (N : Int) := by omega
      have gk0 : (0 : Int) ≤ (k : Int) := by omega
      obtain ⟨gv, rfl⟩ := VA.out (by omega)
      obtain ⟨rr, hrr⟩ : ∃ rr, RW[k]? = some rr := ⟨_, List.getElem?_eq_getElem (by have := hN.out; omega)⟩
      have TK : Hid (RW.take (k + 1) = RW.take k ++ [rr]) := by
        show _ = _
        have hk9 : k < RW.length := by have := hN.out; omega
        rw [List.take_succ_eq_append_getElem hk9]
        congr
        exact Option.some.inj ((List.getElem?_eq_getElem hk9).symm.trans hrr)
      obtain ⟨ri, rs, rz⟩ := rr
      obtain ⟨ho, hl8, hmay⟩ := RM.out _ (List.mem_of_getElem? hrr)
      obtain ⟨gx, hx1, hx2, hx3⟩ := S1.out.2 k _ hrr
      dsimp only at hx1 hx3 ho hl8 hmay
      have hnp : gx ∉ [p, m] := by have := DL.out; simp; omega
      have GX : Hid (wr.heap[gx]? = some (.cells (rz.map (Value.int .u8)).toArray 5 (0, 0))) := HK.out.at hnp hx3
      have LD := (show IsV wr w.heap.size (.slice (some ⟨gv, 0, none⟩) us.length vc) us from V1.out.same fun kk hkk => HK.out.block kk (V1.out.lt kk hkk).2 (by have := (V1.out.lt kk hkk).1; have := DL.out; simp; omega)).load k _ hx1
      have HO : Hid (Oct rz) := ho
      have HL8 : Hid (rz.length ≤ 8) := hl8
      have HMY : Hid (mayI (putA I (RW.take k)) ri rs rz) := ((SameI.refl I).puts _).may hmay
      obtain ⟨rn, hrn⟩ : ∃ rn, Hid (rn = rz.length) := ⟨_, rfl⟩
      have HWR : Hid (∀ W, Below wr.heap.size wr W → Calls Tryz.prog 31 #[.pointer (some ⟨p, 0, none⟩), plV ri rs, .slice (some ⟨gx, 0, none⟩) rn rn] W fun e w' => e = .returned (.int .u32 0) ∧ DicO r9 w' p m (cg + k + 1) (putI (putA I (RW.take k)) ri rs rz) ∧ Kp [p, m] W w') := fun W hW => by
        rw [hrn.out]
        refine (HD.out.next hW).write (fun g9 h9 => by have := HR9.out g9 h9; have := BS.out; have := HK.out.size; have := hW.size; omega) ri rs _ _ _ rz (row_block (blk11 hW GX.out) HO.out (by have := HL8.out; unfold maxLen; omega)) (by have := HL8.out; omega) (by omega) (by omega) hne HMY.out
      try dsimp only at LD
      rw [← hrn.out] at LD
      clear hrr hx1 hx2 hx3 ho hl8 hmay hnp HL8 HO HMY
      go_wp2_with (refine wpList_load_by rfl 45 (.tmp 25) rfl _ _ rfl LD ?_)
      refine (HWR.out _ (by repeat (first | exact Below.refl _ _ | apply Below.drew | apply Below.al))).mono ?_
      rintro e w2 ⟨rfl, hd, hk2⟩
      have F : Hid (DicO r9 w2 p m (cg + (k + 1 : Nat)) (putA I (RW.take (k + 1))) ∧ Kp [p, m] w1 w2) := by
        refine (show _ ∧ _ from ⟨?_, (HK.out.al _).trans hk2⟩)
        rw [TK.out, putA_app, show cg + ((k + 1 : Nat) : Int) = cg + k + 1 by omega]
        exact hd
      have wk : IntKind.i64.wrap ((k : Int) + 1) = ((k + 1 : Nat) : Int) := by rw [IntKind.wrap_i64]; omega
      clear hd hk2 LD
      go_wp2_with fail
      exact ⟨⟨k + 1, by omega, by go_num, F.out⟩, by simp [intOf]; omega⟩
    · obtain rfl : k = N := by omega
      have R : Hid (DicO r9 wr p m (cg + (k : Nat)) (putA I RW) ∧ Kp [p, m] w wr) := by
        have hh := HD.out
        rw [List.take_of_length_le (by rw [← hN.out]; exact Nat.le_refl _)] at hh
        exact (show _ ∧ _ from ⟨hh, (Kp.of B1.out).trans HK.out⟩)
      go_wp2_with fail
      go_ret
      exact ⟨rfl, R.out⟩

set_option linter.unusedSimpArgs false in
set_option maxHeartbeats 4000000 in
set_option maxRecDepth 100000 in
theorem wr_empty (pv mv bv : Value) (RES : Int) (ROWS : List (Int × Int × List Int)) (w : World) (h0 : RES = 0 → ROWS = []) (HU : Calls Tryz.prog 7 #[pv, mv, bv] w (UPost w RES ROWS)) :
    Calls Tryz.prog 10 #[pv, mv, bv] w fun e w' => e = .returned (.int .u32 RES) ∧ Below w.heap.size w w' := by
  have HUU : Hid (Calls Tryz.prog 7 #[pv, mv, bv] w (UPost w RES ROWS)) := HU
  have H0 : Hid (RES = 0 → ROWS = []) := h0
  clear HU h0
  go_enter Tryz.func10, Tryz.ntmps10
  go_wp2_with fail
  refine HUU.out.mono ?_
  rintro e w1 hU
  obtain ⟨va, vc, us, rfl, hus, hva, hv, hs, hb⟩ := hU.form [] (by split; exact (H0.out (by assumption)).symm; rfl)
  have B1 : Hid (Below w.heap.size w w1) := hb
  clear hU hv hs hb hus hva HUU H0
  by_cases hz : RES = 0
  · subst hz
    go_wp2_with fail
    go_loopw [23] (fun iv wr => iv = .int .i64 0 ∧ wr = w1) (fun _ _ => 0)
    case atStart => exact ⟨rfl, rfl⟩
    case round =>
      obtain ⟨rfl, rfl⟩ := hrel
      go_wp2_with fail
      go_ret
      exact ⟨rfl, B1.out⟩
  · go_wp2_with fail
    go_ret
    exact ⟨rfl, B1.out⟩
theorem UPostD.form {w : World} {RES : Int} {ROWS : List (Int × Int × List Int)} {e : Ending} {w' : World} (h : UPostD w RES ROWS e w') (RW : List (Int × Int × List Int)) (hRW : RW = if RES = 0 then ROWS else []) : ∃ va vc us, e = .returned (.tuple #[.slice va RW.length vc, .int .u32 RES]) ∧ us.length = RW.length ∧ (0 < RW.length → ∃ g, va = some ⟨g, 0, none⟩) ∧ IsU w' w.heap.size (.slice va us.length vc) us ∧ Vs w' w.heap.size us RW ∧ Below w.heap.size w w' := by
  subst hRW
  obtain ⟨h | ⟨h0, v, us, he, hv, hs⟩, hb⟩ := h
  · rw [if_neg h.1]
    exact ⟨none, 0, [], h.2, rfl, fun h => absurd h (by simp), isU_nil _ _, vs_nil _ _, hb⟩
  · rw [h0, if_pos rfl]
    have hl := hs.1
    rcases hv.form with ⟨h1, h2⟩ | ⟨g, cap, cur, h1, _⟩
    · subst h1 h2
      exact ⟨none, 0, [], by rw [← hl]; exact he, hl, fun h => by rw [← hl] at h; simp at h, hv, hs, hb⟩
    · subst h1
      exact ⟨_, cap, us, by rw [← hl]; exact he, hl, fun _ => ⟨g, rfl⟩, hv, hs, hb⟩
set_option linter.unusedSimpArgs false in
set_option maxHeartbeats 4000000 in
set_option maxRecDepth 100000 in
theorem rwr_empty (pv mv bv : Value) (RES : Int) (ROWS : List (Int × Int × List Int)) (w : World) (h0 : RES = 0 → ROWS = []) (HU : Calls Tryz.prog 8 #[pv, mv, bv] w (UPostD w RES ROWS)) :
    Calls Tryz.prog 12 #[pv, mv, bv] w fun e w' => e = .returned (.int .u32 RES) ∧ Below w.heap.size w w' := by
  have HUU : Hid (Calls Tryz.prog 8 #[pv, mv, bv] w (UPostD w RES ROWS)) := HU
  have H0 : Hid (RES = 0 → ROWS = []) := h0
  clear HU h0
  go_enter Tryz.func12, Tryz.ntmps12
  go_wp2_with fail
  refine HUU.out.mono ?_
  rintro e w1 hU
  obtain ⟨va, vc, us, rfl, hus, hva, hv, hs, hb⟩ := hU.form [] (by split; exact (H0.out (by assumption)).symm; rfl)
  have B1 : Hid (Below w.heap.size w w1) := hb
  clear hU hv hs hb hus hva HUU H0
  go_wp2_with fail
  go_loopw [9] (fun iv wr => iv = .int .i64 0 ∧ wr = w1) (fun _ _ => 0)
  case atStart => exact ⟨rfl, rfl⟩
  case round =>
    obtain ⟨rfl, rfl⟩ := hrel
    go_wp2_with fail
    go_ret
    exact ⟨rfl, B1.out⟩
set_option linter.unusedSimpArgs false in
set_option maxHeartbeats 4000000 in
set_option maxRecDepth 100000 in
theorem rwr_O (q g n c : Nat) (xs : List Xi) (nn : Int) (I : Int → Int → Option It) (mv bv : Value) (RW : List (Int × Int × List Int)) (w : World) (hD : DocI w q (.slice (some ⟨g, 0, none⟩) n c) xs nn I) (hc0 : 0 ≤ nn) (hc1 : nn < 4611686018427387000)
    (HU : Calls Tryz.prog 8 #[.pointer (some ⟨q, 0, none⟩), mv, bv] w (UPostD w 0 RW)) (hRN : RW.length ≤ 100) (hRM : ∀ r ∈ RW, Oct r.2.2 ∧ r.2.2.length ≤ 8 ∧ mayI I r.1 r.2.1 r.2.2) :
    Calls Tryz.prog 12 #[.pointer (some ⟨q, 0, none⟩), mv, bv] w fun e w' => e = .returned (.int .u32 0) ∧ (∃ xs', DocI w' q (.slice (some ⟨g, 0, none⟩) n c) xs' (nn + (RW.length : Nat)) (putA I RW)) ∧ Kp [q, g] w w' := by
  obtain ⟨N, hN⟩ : ∃ N, Hid (N = RW.length) := ⟨_, rfl⟩
  have hN64 : N ≤ 100 := by rw [hN.out]; exact hRN
  have RM : Hid (∀ r ∈ RW, Oct r.2.2 ∧ r.2.2.length ≤ 8 ∧ mayI I r.1 r.2.1 r.2.2) := hRM
  have D0 : Hid (DocI w q (.slice (some ⟨g, 0, none⟩) n c) xs nn I) := hD
  have DL : Hid (q < w.heap.size ∧ g < w.heap.size) := ⟨lt_of_heap hD.hq, by obtain ⟨b, hx⟩ := hD.hx; exact (hx.lt g rfl).2⟩
  have HUU : Hid (Calls Tryz.prog 8 #[.pointer (some ⟨q, 0, none⟩), mv, bv] w (UPostD w 0 RW)) := HU
  clear HU hRM hD hRN
  rw [← hN.out]
  go_enter Tryz.func12, Tryz.ntmps12
  go_wp2_with fail
  refine HUU.out.mono ?_
  rintro e w1 hU
  obtain ⟨va, vc, us, rfl, hus, hva, hv, hs, hb⟩ := hU.form RW (by rw [if_pos rfl])
  rw [← hN.out] at hus hva ⊢
  have V1 : Hid (IsU w1 w.heap.size (.slice va us.length vc) us) := hv
  have S1 : Hid (Vs w1 w.heap.size us RW) := hs
  have UL : Hid (us.length = N) := hus
  have VA : Hid (0 < N → ∃ g, va = some ⟨g, 0, none⟩) := hva
  have B1 : Hid (Below w.heap.size w w1) := hb
  have D1 : Hid (DocI w1 q (.slice (some ⟨g, 0, none⟩) n c) xs nn I) := D0.out.next hb
  clear hU hv hs hb hus hva HUU
  go_wp2_with fail
  go_loopw [9] (fun iv wr => ∃ k : Nat, k ≤ N ∧ iv = .int .i64 (k : Int) ∧ Hid ((∃ xs', DocI wr q (.slice (some ⟨g, 0, none⟩) n c) xs' (nn + k) (putA I (RW.take k))) ∧ Kp [q, g] w1 wr)) (fun iv _ => N - (intOf iv).toNat)
  case atStart => exact ⟨0, Nat.zero_le _, rfl, ⟨xs, by simpa [putA] using D1.out⟩, Kp.refl _ _⟩
  case round =>
    obtain ⟨k, hk, rfl, HR⟩ := hrel
    have HK : Hid (Kp [q, g] w1 wr) := HR.out.2
    obtain ⟨xs2, hd2⟩ := HR.out.1
    have HD : Hid (DocI wr q (.slice (some ⟨g, 0, none⟩) n c) xs2 (nn + k) (putA I (RW.take k))) := hd2
    clear HR hd2
    by_cases hkN : k < N
    · have gk : (k : Int) < (N : Int) := by omega
      have gk0 : (0 : Int) ≤ (k : Int) := by omega
      obtain ⟨gv, rfl⟩ := VA.out (by omega)
      obtain ⟨rr, hrr⟩ : ∃ rr, RW[k]? = some rr := ⟨_, List.getElem?_eq_getElem (by have := hN.out; omega)⟩
      have TK : Hid (RW.take (k + 1) = RW.take k ++ [rr]) := by
        show _ = _
        have hk9 : k < RW.length := by have := hN.out; omega
        rw [List.take_succ_eq_append_getElem hk9]
        congr
        exact Option.some.inj ((List.getElem?_eq_getElem hk9).symm.trans hrr)
      obtain ⟨ri, rs, rz⟩ := rr
      obtain ⟨ho, hl8, hmay⟩ := RM.out _ (List.mem_of_getElem? hrr)
      obtain ⟨gx, hx1, hx2, hx3⟩ := S1.out.2 k _ hrr
      dsimp only at hx1 hx3 ho hl8 hmay
      have hnp : gx ∉ [q, g] := by have := DL.out; simp; omega
      have hvp : gv ∉ [q, g] := by have := DL.out; have := (V1.out.lt gv rfl).1; simp; omega
      have GX : Hid (wr.heap[gx]? = some (.cells (rz.map (Value.int .u8)).toArray 5 (0, 0))) := HK.out.at hnp hx3
      obtain ⟨rn, hrn⟩ : ∃ rn, Hid (rn = rz.length) := ⟨_, rfl⟩
      have CU : Hid (∀ z, Kp [q, g] wr z → z.cell? ⟨gv, k * 3, none⟩ = some (.int .u16 ri) ∧ z.cell? ⟨gv, k * 3 + 1, none⟩ = some (.int .u8 rs) ∧ z.cell? ⟨gv, k * 3 + 2, none⟩ = some (.slice (some ⟨gx, 0, none⟩) rn rn)) := fun z hz => by
        obtain ⟨c0, c1, c2⟩ := V1.out.at k _ hx1
        have kk := HK.out.trans hz
        rw [hrn.out]
        exact ⟨kk.cell c0 hvp, kk.cell c1 hvp, kk.cell c2 hvp⟩
      have HMY : Hid (mayI (putA I (RW.take k)) ri rs rz) := ((SameI.refl I).puts _).may hmay
      have HL8 : Hid (rz.length ≤ 8) := hl8
      have HO : Hid (Oct rz) := ho
      have HWR : Hid (∀ z, Below wr.heap.size wr z → Calls Tryz.prog 33 #[.pointer (some ⟨q, 0, none⟩), plV ri rs, .slice (some ⟨gx, 0, none⟩) rn rn] z fun e w' => e = .returned (.int .u32 0) ∧ Kp [q, g] z w' ∧ ∃ xs', DocI w' q (.slice (some ⟨g, 0, none⟩) n c) xs' (nn + k + 1) (putI (putA I (RW.take k)) ri rs rz)) := fun W hW => by
        rw [hrn.out]
        exact rwrite_I q g n c xs2 (nn + k) _ ri rs _ _ _ rz W (HD.out.next hW) HMY.out (row_block (blk11 hW GX.out) HO.out (by have := HL8.out; unfold maxLen; omega)) (by have := HL8.out; omega) (by omega) (by omega)
      have wk : IntKind.i64.wrap ((k : Int) + 1) = ((k + 1 : Nat) : Int) := by rw [IntKind.wrap_i64]; omega
      clear hrr hx1 hx2 hx3 ho hl8 hmay hnp hvp
      go_wp2_with fail
      refine wp_region_held_drew (S := fun x => Kp [q, g] wr x) (by kernel_rfl) (Kp.drew (Kp.refl _ _)) (fun hHeld => ?_)
      refine tk 0 (.pointer (some ⟨q, 0, none⟩)) rfl (.inl ⟨by rfl, ?_⟩) ?_
      · intro w9 hSw
        try dsimp only at hSw
        go_simp
        all_goals try decide
        all_goals try assumption
        all_goals try omega
      try simp only [Act.put, gA, gS, gZ, sA, sZ, sS]
      refine tk 1 (.slice (some ⟨gv, 0, none⟩) N vc) rfl (.inl ⟨by rfl, ?_⟩) ?_
      · intro w9 hSw
        try dsimp only at hSw
        go_simp
        all_goals try decide
        all_goals try assumption
        all_goals try omega
      try simp only [Act.put, gA, gS, gZ, sA, sZ, sS]
      refine tk 2 (.int .i64 (k : Int)) rfl (.inl ⟨by rfl, ?_⟩) ?_
      · intro w9 hSw
        try dsimp only at hSw
        go_simp
        all_goals try decide
        all_goals try assumption
        all_goals try omega
      try simp only [Act.put, gA, gS, gZ, sA, sZ, sS]
      refine tk 3 (.pointer (some ⟨gv, k * 3, none⟩)) rfl (.inl ⟨by rfl, ?_⟩) ?_
      · intro w9 hSw
        try dsimp only at hSw
        have q1 : (k : Int) < (N : Int) := by omega
        go_simp
        all_goals try omega
      try simp only [Act.put, gA, gS, gZ, sA, sZ, sS]
      refine tk 4 (.pointer (some ⟨gv, k * 3, none⟩)) rfl (.inl ⟨by rfl, ?_⟩) ?_
      · intro w9 hSw
        try dsimp only at hSw
        go_simp
        all_goals try omega
      try simp only [Act.put, gA, gS, gZ, sA, sZ, sS]
      refine tk 5 (plV ri rs) rfl (.inl ⟨by rfl, ?_⟩) ?_
      · intro w9 hSw
        try dsimp only at hSw
        obtain ⟨d0, d1, d2⟩ := CU.out w9 hSw
        go_simp
        all_goals try assumption
      try simp only [Act.put, gA, gS, gZ, sA, sZ, sS]
      refine tk 6 (.slice (some ⟨gv, 0, none⟩) N vc) rfl (.inl ⟨by rfl, ?_⟩) ?_
      · intro w9 hSw
        try dsimp only at hSw
        go_simp
        all_goals try decide
        all_goals try assumption
        all_goals try omega
      try simp only [Act.put, gA, gS, gZ, sA, sZ, sS]
      refine tk 7 (.int .i64 (k : Int)) rfl (.inl ⟨by rfl, ?_⟩) ?_
      · intro w9 hSw
        try dsimp only at hSw
        go_simp
        all_goals try decide
        all_goals try assumption
        all_goals try omega
      try simp only [Act.put, gA, gS, gZ, sA, sZ, sS]
      refine tk 8 (.pointer (some ⟨gv, k * 3, none⟩)) rfl (.inl ⟨by rfl, ?_⟩) ?_
      · intro w9 hSw
        try dsimp only at hSw
        have q1 : (k : Int) < (N : Int) := by omega
        go_simp
        all_goals try omega
      try simp only [Act.put, gA, gS, gZ, sA, sZ, sS]
      refine tk 9 (.pointer (some ⟨gv, k * 3 + 2, none⟩)) rfl (.inl ⟨by rfl, ?_⟩) ?_
      · intro w9 hSw
        try dsimp only at hSw
        go_simp
        all_goals try omega
      try simp only [Act.put, gA, gS, gZ, sA, sZ, sS]
      refine tk 10 (.slice (some ⟨gx, 0, none⟩) rn rn) rfl (.inl ⟨by rfl, ?_⟩) ?_
      · intro w9 hSw
        try dsimp only at hSw
        obtain ⟨d0, d1, d2⟩ := CU.out w9 hSw
        go_simp
        all_goals try assumption
      try simp only [Act.put, gA, gS, gZ, sA, sZ, sS]
      refine wpAnyH_ready (rs := [11]) (by kernel_rfl) (by simp) ?_
      refine AllReadyH.cons rfl (fun K' hK => ?_) AllReadyH.nil
      rw [if_pos (by rfl)]
      simp only [gA, gS, gZ]
      go_wp2_with fail
      refine (HWR.out _ (Below.drew (Below.refl _ _))).mono ?_
      rintro e w2 ⟨rfl, hk2, hd2⟩
      try go_wp2_with fail
      refine hK.out _ _ ((Kp.drew (Kp.refl _ _)).trans hk2) (fun hHeld => ?_)
      clear hK K'
      try simp only [Act.put, gA, gS, gZ, sA, sZ, sS]
      refine wpAnyH_done (by kernel_rfl) ?_ _
      have F : Hid ((∃ xs', DocI w2 q (.slice (some ⟨g, 0, none⟩) n c) xs' (nn + (k + 1 : Nat)) (putA I (RW.take (k + 1)))) ∧ Kp [q, g] w1 w2) := by
        refine (show _ ∧ _ from ⟨?_, HK.out.trans hHeld⟩)
        rw [TK.out, putA_app, show nn + ((k + 1 : Nat) : Int) = nn + k + 1 by omega]
        exact hd2
      clear hHeld hd2 hk2
      go_wp2_with fail
      exact ⟨⟨k + 1, by omega, by go_num, F.out⟩, by simp [intOf]; omega⟩
    · obtain rfl : k = N := by omega
      have R : Hid ((∃ xs', DocI wr q (.slice (some ⟨g, 0, none⟩) n c) xs' (nn + (k : Nat)) (putA I RW)) ∧ Kp [q, g] w wr) := by
        have hh := HD.out
        rw [List.take_of_length_le (by rw [← hN.out]; exact Nat.le_refl _)] at hh
        exact (show _ ∧ _ from ⟨⟨_, hh⟩, (Kp.of B1.out).trans HK.out⟩)
      go_wp2_with fail
      go_ret
      exact ⟨rfl, R.out⟩
#print axioms wr_O
#print axioms rwr_O
end Go.Proofs.YtajllkkbgpijiaaGreatDoor
namespace Go.Proofs.YtajllkkbgpijiaaGreatDoor
open Go.RowKit

set_option linter.unusedSimpArgs false in
set_option maxHeartbeats 4000000 in
set_option maxRecDepth 100000 in
theorem same_I {w : World} {p m q : Nat} {v : Value} {xs : List Xi} {nn : Int} {I : Int → Int → Option It} {lst : Mp} (h : DocI w q v xs nn I) (hp : w.heap[p]? = some (.cells #[.map (some m), .int .i64 nn] 91 (0, 0))) (hm : IsM w m lst) (hI : ItD w lst I) :
    Calls Tryz.prog 11 #[.pointer (some ⟨p, 0, none⟩), .pointer (some ⟨q, 0, none⟩)] w fun e w' => e = .returned (.bool true) ∧ Below w.heap.size w w' := by
  have H : Hid (DocI w q v xs nn I) := h
  have HP : Hid (w.heap[p]? = some (.cells #[.map (some m), .int .i64 nn] 91 (0, 0)) ∧ IsM w m lst ∧ ItD w lst I) := ⟨hp, hm, hI⟩
  obtain ⟨bs, hx⟩ := h.hx
  obtain ⟨vA, vC, rfl, hva⟩ := hx.form2
  have hl := h.hl
  clear h hp hm hI
  obtain ⟨N, HN⟩ : ∃ N, Hid (xs.length = N) := ⟨_, rfl⟩
  rw [HN.out] at hx hva H hl
  have HX : Hid (IsX w bs (.slice vA N vC) xs) := hx
  have VA : Hid (0 < N → ∃ g, vA = some ⟨g, 0, none⟩) := hva
  have CQ : Hid (∀ W, Below w.heap.size w W → W.cell? ⟨q, 0, none⟩ = some (.slice vA N vC) ∧ W.cell? ⟨q, 1, none⟩ = some (.int .i64 nn)) := fun W hW => ⟨by rw [cell_of_row _ _ 0 _ _ _ (blk11 hW H.out.hq)]; rfl, by rw [cell_of_row _ _ 1 _ _ _ (blk11 hW H.out.hq)]; rfl⟩
  have CH : Hid (∀ W, Below w.heap.size w W → Calls Tryz.prog 32 #[.pointer (some ⟨p, 0, none⟩)] W fun e w' => e = .returned (.int .i64 nn) ∧ w' = W) := fun W hW => changes_any p _ nn W (blk11 hW HP.out.1)
  have hN9 : N ≤ 1024 := by omega
  clear hx hva hl
  go_enter Tryz.func11, Tryz.ntmps11
  go_wp2_with fail
  go_loopw [5] (fun iv wr => ∃ k : Nat, k ≤ N ∧ iv = .int .i64 (k : Int) ∧ Hid (Below w.heap.size w wr)) (fun iv _ => N - (intOf iv).toNat)
  case atStart => exact ⟨0, Nat.zero_le _, rfl, Below.refl _ _⟩
  case round =>
    obtain ⟨k, hk, rfl, HB⟩ := hrel
    obtain ⟨q0, q1⟩ := CQ.out _ HB.out
    by_cases hkN : k < N
    · obtain ⟨g, rfl⟩ := VA.out (by omega)
      have gk : (k : Int) < (N : Int) := by omega
      have gk0 : (0 : Int) ≤ (k : Int) := by omega
      have wk : IntKind.i64.wrap ((k : Int) + 1) = ((k + 1 : Nat) : Int) := by rw [IntKind.wrap_i64]; omega
      obtain ⟨x, hxk⟩ : ∃ x, xs[k]? = some x := ⟨_, List.getElem?_eq_getElem (by rw [HN.out]; exact hkN)⟩
      obtain ⟨y, hy, ok⟩ := H.out.ok x (List.mem_of_getElem? hxk)
      obtain ⟨-, -, -, hxv, hlv⟩ : True ∧ True ∧ True ∧ SlOk w x.v x.lv x.cv y.zv ∧ x.lv ≤ 16777216 := ⟨trivial, trivial, trivial, ok.2.1.2.2.1, ok.2.1.2.2.2⟩
      rcases HP.out.2.2 x.i x.s with ⟨_, hn⟩ | ⟨y', hy', nm, d, ld, cd, l, ll, cl, h, lh, ch, gr, v7, lv7, cv7, zd, hlk, r1, r2, r3, hv7, g1, g2, g3, g4, g5⟩
      · rw [hy] at hn; cases hn
      rw [hy] at hy'
      cases hy'
      obtain ⟨FL, HFL⟩ : ∃ FL, Hid (FL = y.zv) := ⟨_, rfl⟩
      rw [← HFL.out] at hxv hv7
      have l7 : lv7 = x.lv := by rw [← hv7.row.size, ← hxv.row.size]
      have GT : Hid (∀ W, Below w.heap.size w W → Calls Tryz.prog 16 #[.pointer (some ⟨p, 0, none⟩), plV x.i x.s] W fun r w' => (∃ a' cap', r = .returned (.tuple #[.slice a' lv7 cap', .bool true]) ∧ Told W w' a' lv7 cap' FL) ∧ Below W.heap.size W w') := fun W hW => get_at p m nn lst x.i x.s _ _ _ _ _ _ _ _ _ _ _ _ _ _ v7 lv7 cv7 FL W (blk11 hW HP.out.1) (HP.out.2.1.next hW) hlk (hv7.next hW) g4
      rw [← l7] at hxv
      have HXV : Hid (SlOk w x.v lv7 x.cv FL) := hxv
      have CE : Hid (∀ W, Below w.heap.size w W → W.cell? ⟨g, k * 11, none⟩ = some (.int .u16 x.i) ∧ W.cell? ⟨g, k * 11 + 1, none⟩ = some (.int .u8 x.s) ∧ W.cell? ⟨g, k * 11 + 10, none⟩ = some (.slice x.v lv7 x.cv)) := fun W hW => ⟨(HX.out.next hW).cells HN.out hxk (j := 0) rfl, (HX.out.next hW).cells HN.out hxk (j := 1) rfl, by rw [l7]; exact (HX.out.next hW).cells HN.out hxk (j := 10) rfl⟩
      clear hxk hxv hlk hv7 HFL l7 r1 r2 r3 g1 g2 g3 g4 g5 ok hy hlv
      obtain ⟨i, s, nm9, t9, rt9, d9, ld9, cd9, l9, ll9, cl9, h9, lh9, ch9, tg9, gr9, xv, lv9, xc⟩ := x
      dsimp only at GT CE HXV
      obtain ⟨ce0, ce1, ce2⟩ := CE.out _ HB.out
      go_wp2_with fail
      refine wp_region_held_drew (S := fun x => Below w.heap.size w x ∧ x.cell? ⟨q, 0, none⟩ = some (.slice (some ⟨g, 0, none⟩) N vC) ∧ x.cell? ⟨g, k * 11, none⟩ = some (.int .u16 i) ∧ x.cell? ⟨g, k * 11 + 1, none⟩ = some (.int .u8 s) ∧ x.cell? ⟨g, k * 11 + 10, none⟩ = some (.slice xv lv7 xc)) (by kernel_rfl) (⟨Below.drew HB.out, q0, ce0, ce1, ce2⟩) (fun hHeld => ?_)
      refine tk 0 (.pointer (some ⟨p, 0, none⟩)) rfl (.inl ⟨by rfl, ?_⟩) ?_
      · intro w9 hSw
        try dsimp only at hSw
        go_simp
        all_goals try decide
        all_goals try assumption
        all_goals try omega
      try simp only [Act.put, gA, gS, gZ, sA, sZ, sS]
      refine tk 1 (.pointer (some ⟨q, 0, none⟩)) rfl (.inl ⟨by rfl, ?_⟩) ?_
      · intro w9 hSw
        try dsimp only at hSw
        go_simp
        all_goals try decide
        all_goals try assumption
        all_goals try omega
      try simp only [Act.put, gA, gS, gZ, sA, sZ, sS]
      refine tk 2 (.pointer (some ⟨q, 0, none⟩)) rfl (.inl ⟨by rfl, ?_⟩) ?_
      · intro w9 hSw
        try dsimp only at hSw
        go_simp
        all_goals try decide
        all_goals try assumption
        all_goals try omega
      try simp only [Act.put, gA, gS, gZ, sA, sZ, sS]
      refine tk 3 (.pointer (some ⟨q, 0, none⟩)) rfl (.inl ⟨by rfl, ?_⟩) ?_
      · intro w9 hSw
        try dsimp only at hSw
        go_simp
        all_goals try decide
        all_goals try assumption
        all_goals try omega
      try simp only [Act.put, gA, gS, gZ, sA, sZ, sS]
      refine tk 4 (.slice (some ⟨g, 0, none⟩) N vC) rfl (.inl ⟨by rfl, ?_⟩) ?_
      · intro w9 hSw
        try dsimp only at hSw
        go_simp
        all_goals try decide
        all_goals try assumption
        all_goals try omega
      try simp only [Act.put, gA, gS, gZ, sA, sZ, sS]
      refine tk 5 (.int .i64 (k : Int)) rfl (.inl ⟨by rfl, ?_⟩) ?_
      · intro w9 hSw
        try dsimp only at hSw
        go_simp
        all_goals try decide
        all_goals try assumption
        all_goals try omega
      try simp only [Act.put, gA, gS, gZ, sA, sZ, sS]
      refine tk 6 (.pointer (some ⟨g, k * 11, none⟩)) rfl (.inl ⟨by rfl, ?_⟩) ?_
      · intro w9 hSw
        try dsimp only at hSw
        go_simp
        all_goals try decide
        all_goals try assumption
        all_goals try omega
      try simp only [Act.put, gA, gS, gZ, sA, sZ, sS]
      refine tk 7 (.pointer (some ⟨g, k * 11, none⟩)) rfl (.inl ⟨by rfl, ?_⟩) ?_
      · intro w9 hSw
        try dsimp only at hSw
        go_simp
        all_goals try decide
        all_goals try assumption
        all_goals try omega
      try simp only [Act.put, gA, gS, gZ, sA, sZ, sS]
      refine tk 8 (.pointer (some ⟨g, k * 11, none⟩)) rfl (.inl ⟨by rfl, ?_⟩) ?_
      · intro w9 hSw
        try dsimp only at hSw
        go_simp
        all_goals try decide
        all_goals try assumption
        all_goals try omega
      try simp only [Act.put, gA, gS, gZ, sA, sZ, sS]
      refine tk 9 (.int .u16 i) rfl (.inl ⟨by rfl, ?_⟩) ?_
      · intro w9 hSw
        try dsimp only at hSw
        go_simp
        all_goals try decide
        all_goals try assumption
        all_goals try omega
      try simp only [Act.put, gA, gS, gZ, sA, sZ, sS]
      refine tk 10 (.pointer (some ⟨q, 0, none⟩)) rfl (.inl ⟨by rfl, ?_⟩) ?_
      · intro w9 hSw
        try dsimp only at hSw
        go_simp
        all_goals try decide
        all_goals try assumption
        all_goals try omega
      try simp only [Act.put, gA, gS, gZ, sA, sZ, sS]
      refine tk 11 (.pointer (some ⟨q, 0, none⟩)) rfl (.inl ⟨by rfl, ?_⟩) ?_
      · intro w9 hSw
        try dsimp only at hSw
        go_simp
        all_goals try decide
        all_goals try assumption
        all_goals try omega
      try simp only [Act.put, gA, gS, gZ, sA, sZ, sS]
      refine tk 12 (.pointer (some ⟨q, 0, none⟩)) rfl (.inl ⟨by rfl, ?_⟩) ?_
      · intro w9 hSw
        try dsimp only at hSw
        go_simp
        all_goals try decide
        all_goals try assumption
        all_goals try omega
      try simp only [Act.put, gA, gS, gZ, sA, sZ, sS]
      refine tk 13 (.slice (some ⟨g, 0, none⟩) N vC) rfl (.inl ⟨by rfl, ?_⟩) ?_
      · intro w9 hSw
        try dsimp only at hSw
        go_simp
        all_goals try decide
        all_goals try assumption
        all_goals try omega
      try simp only [Act.put, gA, gS, gZ, sA, sZ, sS]
      refine tk 14 (.int .i64 (k : Int)) rfl (.inl ⟨by rfl, ?_⟩) ?_
      · intro w9 hSw
        try dsimp only at hSw
        go_simp
        all_goals try decide
        all_goals try assumption
        all_goals try omega
      try simp only [Act.put, gA, gS, gZ, sA, sZ, sS]
      refine tk 15 (.pointer (some ⟨g, k * 11, none⟩)) rfl (.inl ⟨by rfl, ?_⟩) ?_
      · intro w9 hSw
        try dsimp only at hSw
        go_simp
        all_goals try decide
        all_goals try assumption
        all_goals try omega
      try simp only [Act.put, gA, gS, gZ, sA, sZ, sS]
      refine tk 16 (.pointer (some ⟨g, k * 11, none⟩)) rfl (.inl ⟨by rfl, ?_⟩) ?_
      · intro w9 hSw
        try dsimp only at hSw
        go_simp
        all_goals try decide
        all_goals try assumption
        all_goals try omega
      try simp only [Act.put, gA, gS, gZ, sA, sZ, sS]
      refine tk 17 (.pointer (some ⟨g, k * 11 + 1, none⟩)) rfl (.inl ⟨by rfl, ?_⟩) ?_
      · intro w9 hSw
        try dsimp only at hSw
        go_simp
        all_goals try decide
        all_goals try assumption
        all_goals try omega
      try simp only [Act.put, gA, gS, gZ, sA, sZ, sS]
      refine tk 18 (.int .u8 s) rfl (.inl ⟨by rfl, ?_⟩) ?_
      · intro w9 hSw
        try dsimp only at hSw
        go_simp
        all_goals try decide
        all_goals try assumption
        all_goals try omega
      try simp only [Act.put, gA, gS, gZ, sA, sZ, sS]
      refine tk 19 (plV i s) rfl (.inl ⟨by rfl, ?_⟩) ?_
      · intro w9 hSw
        try dsimp only at hSw
        go_simp
        all_goals try decide
        all_goals try assumption
        all_goals try omega
      try simp only [Act.put, gA, gS, gZ, sA, sZ, sS]
      refine wpAnyH_ready (rs := [20]) (by kernel_rfl) (by simp) ?_
      refine AllReadyH.cons rfl (fun K' hK => ?_) AllReadyH.nil
      rw [if_pos (by rfl)]
      simp only [gA, gS, gZ]
      go_wp2_with fail
      refine (GT.out _ hHeld.1).mono ?_
      rintro r w5 ⟨⟨a5, cap5, rfl, hT5⟩, hb5⟩
      try go_wp2_with fail
      refine hK.out _ _ (⟨Below.andThen hHeld.1 hb5, (hb5.cell (block_lt_of_cell hHeld.2.1)).trans hHeld.2.1, (hb5.cell (block_lt_of_cell hHeld.2.2.1)).trans hHeld.2.2.1, (hb5.cell (block_lt_of_cell hHeld.2.2.2.1)).trans hHeld.2.2.2.1, (hb5.cell (block_lt_of_cell hHeld.2.2.2.2)).trans hHeld.2.2.2.2⟩) (fun hHeld => ?_)
      clear hK K'
      try simp only [Act.put, gA, gS, gZ, sA, sZ, sS]
      refine tk 21 (.tuple #[.slice a5 lv7 cap5, .bool true]) rfl (.inl ⟨by rfl, ?_⟩) ?_
      · intro w9 hSw
        try dsimp only at hSw
        go_simp
        all_goals try decide
        all_goals try assumption
        all_goals try omega
      try simp only [Act.put, gA, gS, gZ, sA, sZ, sS]
      refine tk 22 (.slice a5 lv7 cap5) rfl (.inl ⟨by rfl, ?_⟩) ?_
      · intro w9 hSw
        try dsimp only at hSw
        go_simp
        all_goals try decide
        all_goals try assumption
        all_goals try omega
      try simp only [Act.put, gA, gS, gZ, sA, sZ, sS]
      refine tk 23 (.bool true) rfl (.inl ⟨by rfl, ?_⟩) ?_
      · intro w9 hSw
        try dsimp only at hSw
        go_simp
        all_goals try decide
        all_goals try assumption
        all_goals try omega
      try simp only [Act.put, gA, gS, gZ, sA, sZ, sS]
      refine tk 24 (.slice a5 lv7 cap5) rfl (.inl ⟨by rfl, ?_⟩) ?_
      · intro w9 hSw
        try dsimp only at hSw
        go_simp
        all_goals try decide
        all_goals try assumption
        all_goals try omega
      try simp only [Act.put, gA, gS, gZ, sA, sZ, sS]
      refine tk 25 (.bool true) rfl (.inl ⟨by rfl, ?_⟩) ?_
      · intro w9 hSw
        try dsimp only at hSw
        go_simp
        all_goals try decide
        all_goals try assumption
        all_goals try omega
      try simp only [Act.put, gA, gS, gZ, sA, sZ, sS]
      refine wpAnyH_done (by kernel_rfl) ?_ _
      have H4 := hHeld
      have T5 : Hid (SlOk w5 a5 lv7 cap5 FL) := hT5.sl
      clear hHeld hT5 hb5 q0 q1 ce0 ce1 ce2
      go_wp2_with fail
      refine wp_region_held_drew (S := fun x => (Below w5.heap.size w5 x ∧ Below w.heap.size w x) ∧ x.cell? ⟨q, 0, none⟩ = some (.slice (some ⟨g, 0, none⟩) N vC) ∧ x.cell? ⟨g, k * 11, none⟩ = some (.int .u16 i) ∧ x.cell? ⟨g, k * 11 + 1, none⟩ = some (.int .u8 s) ∧ x.cell? ⟨g, k * 11 + 10, none⟩ = some (.slice xv lv7 xc)) (by kernel_rfl) (⟨⟨Below.drew (Below.refl _ _), Below.drew H4.1⟩, H4.2.1, H4.2.2.1, H4.2.2.2.1, H4.2.2.2.2⟩) (fun hHeld => ?_)
      refine tk 0 (.bool true) rfl (.inl ⟨by rfl, ?_⟩) ?_
      · intro w9 hSw
        try dsimp only at hSw
        go_simp
        all_goals try decide
        all_goals try assumption
        all_goals try omega
      try simp only [Act.put, gA, gS, gZ, sA, sZ, sS]
      refine tk 1 (.bool false) rfl (.inl ⟨by rfl, ?_⟩) ?_
      · intro w9 hSw
        try dsimp only at hSw
        go_simp
        all_goals try decide
        all_goals try assumption
        all_goals try omega
      try simp only [Act.put, gA, gS, gZ, sA, sZ, sS]
      refine tk 2 (.bool false) rfl (.inl ⟨by rfl, ?_⟩) ?_
      · intro w9 hSw
        try dsimp only at hSw
        go_simp
        all_goals try decide
        all_goals try assumption
        all_goals try omega
      try simp only [Act.put, gA, gS, gZ, sA, sZ, sS]
      refine tk 3 (.slice a5 lv7 cap5) rfl (.inl ⟨by rfl, ?_⟩) ?_
      · intro w9 hSw
        try dsimp only at hSw
        go_simp
        all_goals try decide
        all_goals try assumption
        all_goals try omega
      try simp only [Act.put, gA, gS, gZ, sA, sZ, sS]
      refine tk 4 (.string (strOfNums FL)) rfl (.inl ⟨by rfl, ?_⟩) ?_
      · intro w9 hSw
        try dsimp only at hSw
        have s1 := (T5.out.row.next hSw.1.1).str cap5
        go_simp
        all_goals try assumption
      try simp only [Act.put, gA, gS, gZ, sA, sZ, sS]
      refine tk 5 (.pointer (some ⟨q, 0, none⟩)) rfl (.inl ⟨by rfl, ?_⟩) ?_
      · intro w9 hSw
        try dsimp only at hSw
        go_simp
        all_goals try decide
        all_goals try assumption
        all_goals try omega
      try simp only [Act.put, gA, gS, gZ, sA, sZ, sS]
      refine tk 6 (.pointer (some ⟨q, 0, none⟩)) rfl (.inl ⟨by rfl, ?_⟩) ?_
      · intro w9 hSw
        try dsimp only at hSw
        go_simp
        all_goals try decide
        all_goals try assumption
        all_goals try omega
      try simp only [Act.put, gA, gS, gZ, sA, sZ, sS]
      refine tk 7 (.pointer (some ⟨q, 0, none⟩)) rfl (.inl ⟨by rfl, ?_⟩) ?_
      · intro w9 hSw
        try dsimp only at hSw
        go_simp
        all_goals try decide
        all_goals try assumption
        all_goals try omega
      try simp only [Act.put, gA, gS, gZ, sA, sZ, sS]
      refine tk 8 (.slice (some ⟨g, 0, none⟩) N vC) rfl (.inl ⟨by rfl, ?_⟩) ?_
      · intro w9 hSw
        try dsimp only at hSw
        go_simp
        all_goals try decide
        all_goals try assumption
        all_goals try omega
      try simp only [Act.put, gA, gS, gZ, sA, sZ, sS]
      refine tk 9 (.int .i64 (k : Int)) rfl (.inl ⟨by rfl, ?_⟩) ?_
      · intro w9 hSw
        try dsimp only at hSw
        go_simp
        all_goals try decide
        all_goals try assumption
        all_goals try omega
      try simp only [Act.put, gA, gS, gZ, sA, sZ, sS]
      refine tk 10 (.pointer (some ⟨g, k * 11, none⟩)) rfl (.inl ⟨by rfl, ?_⟩) ?_
      · intro w9 hSw
        try dsimp only at hSw
        go_simp
        all_goals try decide
        all_goals try assumption
        all_goals try omega
      try simp only [Act.put, gA, gS, gZ, sA, sZ, sS]
      refine tk 11 (.pointer (some ⟨g, k * 11 + 10, none⟩)) rfl (.inl ⟨by rfl, ?_⟩) ?_
      · intro w9 hSw
        try dsimp only at hSw
        go_simp
        all_goals try decide
        all_goals try assumption
        all_goals try omega
      try simp only [Act.put, gA, gS, gZ, sA, sZ, sS]
      refine tk 12 (.slice xv lv7 xc) rfl (.inl ⟨by rfl, ?_⟩) ?_
      · intro w9 hSw
        try dsimp only at hSw
        go_simp
        all_goals try decide
        all_goals try assumption
        all_goals try omega
      try simp only [Act.put, gA, gS, gZ, sA, sZ, sS]
      refine tk 13 (.string (strOfNums FL)) rfl (.inl ⟨by rfl, ?_⟩) ?_
      · intro w9 hSw
        try dsimp only at hSw
        have s1 := (HXV.out.row.next hSw.1.2).str xc
        go_simp
        all_goals try assumption
      try simp only [Act.put, gA, gS, gZ, sA, sZ, sS]
      refine tk 14 (.bool false) rfl (.inl ⟨by rfl, ?_⟩) ?_
      · intro w9 hSw
        try dsimp only at hSw
        go_simp
        all_goals try decide
        all_goals try assumption
        all_goals try omega
      try simp only [Act.put, gA, gS, gZ, sA, sZ, sS]
      refine tk 15 (.bool false) rfl (.inl ⟨by rfl, ?_⟩) ?_
      · intro w9 hSw
        try dsimp only at hSw
        go_simp
        all_goals try decide
        all_goals try assumption
        all_goals try omega
      try simp only [Act.put, gA, gS, gZ, sA, sZ, sS]
      refine wpAnyH_done (by kernel_rfl) ?_ _
      have B9 := hHeld.1.2
      clear hHeld
      go_wp2_with fail
      exact ⟨⟨k + 1, by omega, by go_num, B9⟩, by simp [intOf]; omega⟩
    · obtain rfl : k = N := by omega
      go_wp2_with fail
      refine wp_region_held_drew (S := fun x => Below w.heap.size w x ∧ x.cell? ⟨q, 1, none⟩ = some (.int .i64 nn)) (by kernel_rfl) (⟨Below.drew HB.out, q1⟩) (fun hHeld => ?_)
      refine tk 0 (.pointer (some ⟨p, 0, none⟩)) rfl (.inl ⟨by rfl, ?_⟩) ?_
      · intro w9 hSw
        try dsimp only at hSw
        go_simp
        all_goals try decide
        all_goals try assumption
        all_goals try omega
      try simp only [Act.put, gA, gS, gZ, sA, sZ, sS]
      refine tk 2 (.pointer (some ⟨q, 0, none⟩)) rfl (.inl ⟨by rfl, ?_⟩) ?_
      · intro w9 hSw
        try dsimp only at hSw
        go_simp
        all_goals try decide
        all_goals try assumption
        all_goals try omega
      try simp only [Act.put, gA, gS, gZ, sA, sZ, sS]
      refine tk 3 (.pointer (some ⟨q, 0, none⟩)) rfl (.inl ⟨by rfl, ?_⟩) ?_
      · intro w9 hSw
        try dsimp only at hSw
        go_simp
        all_goals try decide
        all_goals try assumption
        all_goals try omega
      try simp only [Act.put, gA, gS, gZ, sA, sZ, sS]
      refine tk 4 (.pointer (some ⟨q, 1, none⟩)) rfl (.inl ⟨by rfl, ?_⟩) ?_
      · intro w9 hSw
        try dsimp only at hSw
        go_simp
        all_goals try decide
        all_goals try assumption
        all_goals try omega
      try simp only [Act.put, gA, gS, gZ, sA, sZ, sS]
      refine tk 5 (.int .i64 nn) rfl (.inl ⟨by rfl, ?_⟩) ?_
      · intro w9 hSw
        try dsimp only at hSw
        go_simp
        all_goals try decide
        all_goals try assumption
        all_goals try omega
      try simp only [Act.put, gA, gS, gZ, sA, sZ, sS]
      refine wpAnyH_ready (rs := [1]) (by kernel_rfl) (by simp) ?_
      refine AllReadyH.cons rfl (fun K' hK => ?_) AllReadyH.nil
      rw [if_pos (by rfl)]
      simp only [gA, gS, gZ]
      go_wp2_with fail
      refine (CH.out _ hHeld.1).mono ?_
      rintro r w5 ⟨rfl, rfl⟩
      try go_wp2_with fail
      refine hK.out _ _ (hHeld) (fun hHeld => ?_)
      clear hK K'
      try simp only [Act.put, gA, gS, gZ, sA, sZ, sS]
      refine tk 6 (.bool true) rfl (.inl ⟨by rfl, ?_⟩) ?_
      · intro w9 hSw
        try dsimp only at hSw
        go_simp
        all_goals try decide
        all_goals try assumption
        all_goals try omega
      try simp only [Act.put, gA, gS, gZ, sA, sZ, sS]
      refine tk 7 (.bool true) rfl (.inl ⟨by rfl, ?_⟩) ?_
      · intro w9 hSw
        try dsimp only at hSw
        go_simp
        all_goals try decide
        all_goals try assumption
        all_goals try omega
      try simp only [Act.put, gA, gS, gZ, sA, sZ, sS]
      refine wpAnyH_done (by kernel_rfl) ?_ _
      have B9 := hHeld.1
      clear hHeld
      go_wp2_with fail
      go_ret
      exact ⟨rfl, B9⟩
#print axioms same_I
end Go.Proofs.YtajllkkbgpijiaaGreatDoor
namespace Go.Proofs.YtajllkkbgpijiaaGreatDoor
open Go.RowKit

theorem Row.offS {W W' : World} {a : Option Addr} {len : Nat} {zs : List Int} {S : List Nat} (h : Row W a len zs) (hk : Kp S W W') (hn : 0 < len → ∀ b o, a = some ⟨b, o, none⟩ → b ∉ S) : Row W' a len zs where
  size := h.size
  oct := h.oct
  at_ := fun hp => by
    obtain ⟨b, off, e, hc⟩ := h.at_ hp
    exact ⟨b, off, e, fun i hi => hk.cell (hc i hi) (hn hp b off e)⟩
/-- The blocks of the document's dictionary. -/
def blks (q : Nat) (r : Option Nat) : List Nat := q :: r.toList
theorem DocI.kpP {w w' : World} {q : Nat} {v : Value} {xs : List Xi} {nn : Int} {I : Int → Int → Option It} (h : DocI w q v xs nn I) {p m : Nat} {cg : Int} {lst : Mp} (hp : w.heap[p]? = some (.cells #[.map (some m), .int .i64 cg] 91 (0, 0))) (hm : IsM w m lst) (hk : Kp [p, m] w w') : DocI w' q v xs nn I := by
  obtain ⟨bs, hx⟩ := h.hx
  have hmm := hm
  obtain ⟨es, ck, hmm, -⟩ := hmm
  refine ⟨hk.at (by
    intro e
    simp at e
    rcases e with rfl | rfl
    · rw [h.hq] at hp; simp at hp
    · rw [h.hq] at hmm; cases hmm) h.hq, ⟨bs, hx.same fun k hk9 => hk.block k (hx.lt k hk9).2 (by
    intro e
    simp at e
    rcases e with rfl | rfl
    · exact hx.ne hp (by decide) hk9.symm
    · rcases hx.2 with ⟨h1, _⟩ | ⟨g, cap, cur, hv, hb, hh, _⟩
      · rw [h1] at hk9; cases hk9
      · rw [hv] at hk9
        simp only [Value.ownBlock] at hk9
        cases hk9
        rw [hh] at hmm
        cases hmm)⟩, h.hl, fun x hx9 => ?_, h.al, h.un⟩
  obtain ⟨y, h1, h2, ⟨h3, h4, h5, h6⟩, h7⟩ := h.ok x hx9
  exact ⟨y, h1, h2, ⟨h3.kpD hp hm hk, h4.kpD hp hm hk, h5.kpD hp hm hk, h6⟩, h7⟩
/-- The program's dictionary, beside the document's that is written to. -/
theorem DicO.kpX {w w' : World} {q : Nat} {v : Value} {xs : List Xi} {nn : Int} {J : Int → Int → Option It} (hd : DocI w q v xs nn J) {p m : Nat} {cg : Int} {I : Int → Int → Option It} (h : DicO v.ownBlock w p m cg I) (hk : Kp (blks q v.ownBlock) w w') : ∃ lst, w'.heap[p]? = some (.cells #[.map (some m), .int .i64 cg] 91 (0, 0)) ∧ IsM w' m lst ∧ ItD w' lst I := by
  obtain ⟨lst, hp, hm, hI, -, hO⟩ := h
  obtain ⟨bs, hx⟩ := hd.hx
  have hm2 := hm
  obtain ⟨es, ck, hmm, hrest⟩ := hm2
  have pn : p ∉ blks q v.ownBlock := by
    intro e
    rcases List.mem_cons.1 e with rfl | e
    · rw [hd.hq] at hp; simp at hp
    · exact hx.ne hp (by decide) (by cases hv : v.ownBlock with | none => rw [hv] at e; cases e | some k => rw [hv] at e; simp at e; rw [e])
  have mn : m ∉ blks q v.ownBlock := by
    intro e
    rcases List.mem_cons.1 e with rfl | e
    · rw [hd.hq] at hmm; cases hmm
    · rcases hx.2 with ⟨h1, _⟩ | ⟨g, cap, cur, hv, hb, hh, _⟩
      · rw [h1] at e; cases e
      · rw [hv] at e
        simp [Value.ownBlock] at e
        subst e
        rw [hh] at hmm
        cases hmm
  have keep : ∀ {a : Option Addr} {la ca : Nat} {zs : List Int}, SlOk w a la ca zs → OffB v.ownBlock a la → SlOk w' a la ca zs := fun hs ho => ⟨hs.row.offS hk fun hp9 b off e9 e => by
    rcases List.mem_cons.1 e with rfl | e
    · obtain ⟨b', off', e2, hc⟩ := hs.row.at_ hp9
      rw [e9] at e2
      cases e2
      have hc := hc 0 hp9
      rw [cell_of_row _ _ _ _ _ _ hd.hq] at hc
      rcases (by omega : off + 0 = 0 ∨ off + 0 = 1 ∨ 2 ≤ off + 0) with q | q | q
      · obtain ⟨vA, vC, hv2, _⟩ := hx.form2
        rw [q, hv2] at hc; simp at hc
      · rw [q] at hc; simp at hc
      · rw [Array.getElem?_eq_none (by simpa using q)] at hc; simp at hc
    · exact ho hp9 b off e9 (by cases hv : v.ownBlock with | none => rw [hv] at e; cases e | some k => rw [hv] at e; simp at e; rw [e]), hs.le, hs.max⟩
  refine ⟨lst, hk.at pn hp, ⟨es, ck, (hk.block m (lt_of_heap hmm) mn).trans hmm, hrest⟩, fun i s => ?_⟩
  rcases hI i s with h | ⟨x, hx, nm, d, ld, cd, l, ll, cl, h, lh, ch, gr, v9, lv, cv, zd, e, r1, r2, r3, r4, g⟩
  · exact .inl h
  · obtain ⟨o1, o2, o3, o4⟩ := hO i s _ _ _ _ _ _ _ _ _ _ _ _ _ _ _ _ _ e
    exact .inr ⟨x, hx, nm, d, ld, cd, l, ll, cl, h, lh, ch, gr, v9, lv, cv, zd, e, keep r1 o1, keep r2 o2, keep r3 o3, keep r4 o4, g⟩
/-- What both have written. -/
def wrN (RES : Int) (ROWS : List (Int × Int × List Int)) : List (Int × Int × List Int) := if RES = 0 then ROWS else []
theorem pw_two {w : World} {R : World → Prop} {ms : List Mz} {dp mp : Value} {zs : List Int} {RES : Int} {ROWS : List (Int × Int × List Int)} (U : UnTwo w R ms dp mp zs RES ROWS) {I : Int → Int → Option It} (hm : RES = 0 → ∀ r ∈ ROWS, mayI I r.1 r.2.1 r.2.2) {p m : Nat} (hdp : dp = .pointer (some ⟨p, 0, none⟩)) (hne : p ≠ m) {r9 : Option Nat} (W : World) (hW : Below w.heap.size w W) (hD : DicO r9 W p m 0 I) (hr9 : ∀ g, r9 = some g → g < W.heap.size)
    (a : Option Addr) (G off cap : Nat) (had : 0 < ms.length → a = some ⟨G, off, none⟩) (hM : MzAt W G off ms) (ab : Option Addr) (cb : Nat) (hr : Row W ab zs.length zs) :
    Calls Tryz.prog 10 #[dp, .slice a ms.length cap, .slice ab zs.length cb] W fun e w' => e = .returned (.int .u32 RES) ∧ DicO r9 w' p m (((wrN RES ROWS).length : Nat) : Int) (putA I (wrN RES ROWS)) ∧ Kp [p, m] W w' := by
  have HU := U.p W hW a G off cap had hM ab cb hr
  by_cases h0 : RES = 0
  · subst h0
    unfold wrN
    rw [if_pos rfl]
    rw [hdp] at HU ⊢
    refine (wr_O p m 0 I r9 _ _ ROWS W hD hr9 hne (by decide) (by decide) HU U.l fun r hr => ⟨(U.o rfl r hr).1, (U.o rfl r hr).2, hm rfl r hr⟩).mono ?_
    rintro e w' ⟨h1, h2, h3⟩
    rw [Int.zero_add] at h2
    exact ⟨h1, h2, h3⟩
  · unfold wrN
    rw [if_neg h0]
    refine (wr_empty dp _ _ RES ROWS W (fun h => absurd h h0) HU).mono ?_
    rintro e w' ⟨h1, h2⟩
    exact ⟨h1, hD.next h2, Kp.of h2⟩
theorem rw_two {w : World} {ms : List Mz} {dp mp : Value} {zs : List Int} {RES : Int} {ROWS : List (Int × Int × List Int)} {q : Nat} {v : Value} {xs : List Xi} {I : Int → Int → Option It} (U : UnTwo w (fun W => DocI W q v xs 0 I) ms dp mp zs RES ROWS) (hm : RES = 0 → ∀ r ∈ ROWS, mayI I r.1 r.2.1 r.2.2) (hmp : mp = .pointer (some ⟨q, 0, none⟩)) (W : World) (hD : DocI W q v xs 0 I)
    (a : Option Addr) (G off cap : Nat) (had : 0 < ms.length → a = some ⟨G, off, none⟩) (hM : MzAt W G off ms) (ab : Option Addr) (cb : Nat) (hr : Row W ab zs.length zs) :
    Calls Tryz.prog 12 #[mp, .slice a ms.length cap, .slice ab zs.length cb] W fun e w' => e = .returned (.int .u32 RES) ∧ (∃ xs', DocI w' q v xs' (((wrN RES ROWS).length : Nat) : Int) (putA I (wrN RES ROWS))) ∧ Kp (blks q v.ownBlock) W w' := by
  have HU := U.r W hD a G off cap had hM ab cb hr
  by_cases h0 : RES = 0 ∧ ROWS ≠ []
  · obtain ⟨rfl, hne⟩ := h0
    unfold wrN
    rw [if_pos rfl]
    obtain ⟨r, hr9⟩ := List.exists_mem_of_ne_nil _ hne
    obtain ⟨y, hy, -⟩ := hm rfl r hr9
    obtain ⟨x, hx, -⟩ := hD.al _ _ y hy
    obtain ⟨bs, hX⟩ := hD.hx
    obtain ⟨g, n, c, rfl⟩ : ∃ g n c, v = .slice (some ⟨g, 0, none⟩) n c := by
      rcases hX.form with ⟨_, h2⟩ | ⟨g, cap, cur, hv, _⟩
      · rw [h2] at hx; cases hx
      · exact ⟨g, _, cap, hv⟩
    rw [hmp] at HU ⊢
    refine (rwr_O q g n c xs 0 I _ _ ROWS W hD (by decide) (by decide) HU U.l fun r hr => ⟨(U.o rfl r hr).1, (U.o rfl r hr).2, hm rfl r hr⟩).mono ?_
    rintro e w' ⟨h1, ⟨xs', h2⟩, h3⟩
    rw [Int.zero_add] at h2
    exact ⟨h1, ⟨xs', h2⟩, h3⟩
  · have hE : wrN RES ROWS = [] := by
      unfold wrN
      split
      · rename_i h
        exact Classical.byContradiction fun hn => h0 ⟨h, hn⟩
      · rfl
    rw [hE]
    refine (rwr_empty mp _ _ RES ROWS W (fun h => Classical.byContradiction fun hn => h0 ⟨h, hn⟩) HU).mono ?_
    rintro e w' ⟨h1, h2⟩
    exact ⟨h1, ⟨xs, hD.next h2⟩, Kp.of h2⟩
#print axioms DicO.kpX
#print axioms pw_two
#print axioms rw_two
end Go.Proofs.YtajllkkbgpijiaaGreatDoor
namespace Go.Proofs.YtajllkkbgpijiaaGreatDoor
open Go.RowKit

theorem nePl (i s : Int) : ∀ W, (binOp .neq 43 (plV i s) (plV i s)).run Tryz.prog W = .ok (.bool false) W := fun W => by
  have := neqP W i s i s
  simpa using this
theorem copy_told (zs : List Int) (hz : Oct zs) (w : World) : ∃ a cap w', (convert 9 24 (.string (strOfNums zs))).run Tryz.prog w = .ok (.slice a zs.length cap) w' ∧ Row w' a zs.length zs ∧ (∀ b off, a = some ⟨b, off, none⟩ → b = w.heap.size) ∧ Below w.heap.size w w' := by
  have hs : (strOfNums zs).size = zs.length := by unfold strOfNums; simp [ByteArray.size]
  have hrun := run_bytes_of_string (P := Tryz.prog) w 9 24 5 (strOfNums zs) Tryz.underlying9 Tryz.underlying24 Tryz.underlying5
  rw [hs] at hrun
  generalize grownCap w zs.length 0 5 = cap at *
  refine ⟨_, _, _, hrun, ⟨rfl, hz, fun hp => ⟨_, 0, rfl, fun i hi => ?_⟩⟩, fun b off e => by cases e; rfl, Below.al (Below.drew (Below.refl _ _)) _⟩
  have e : (w.drew.alloc (.cells (bytesRow (strOfNums zs) cap) 5 ((bytesRow (strOfNums zs) cap).size, (bytesRow (strOfNums zs) cap).size + 1))).heap[w.heap.size]? = some (.cells (bytesRow (strOfNums zs) cap) 5 ((bytesRow (strOfNums zs) cap).size, (bytesRow (strOfNums zs) cap).size + 1)) := by show (w.heap.push _)[w.heap.size]? = _; simp
  unfold World.cell?
  rw [e]
  have hi' : i < (strOfNums zs).data.size := by show i < (strOfNums zs).size; omega
  have hzi := hz zs[i] (List.getElem_mem hi)
  simp [bytesRow, Array.getElem?_append, hi, strOfNums, List.getD_eq_getElem?_getD]
  omega
set_option linter.unusedSimpArgs false in
set_option maxHeartbeats 4000000 in
set_option maxRecDepth 100000 in
theorem mappingWrites_any {w : World} {a0 : Option Addr} {len0 : Nat} {es : List Em} (h0 : IsEn w a0 len0 es) (cap0 : Nat) (lm0 : len0 ≤ maxLen) {a1 : Option Addr} {len1 : Nat} {ms : List Mz} (h1 : IsMz w a1 len1 ms) (cap1 : Nat) {a8 : Option Addr} {len8 : Nat} {zs : List Int} (h8 : Row w a8 len8 zs) (cap8 : Nat) (hT : Ty.Tab64 w) :
    Calls Tryz.prog 3 #[.slice a0 len0 cap0, .slice a1 len1 cap1, .slice a8 len8 cap8] w fun e w' => e = .returned (.bool true) ∧ Below w.heap.size w w' := by
  have HT : Hid (Ty.Tab64 w) := hT
  have HS := size12 h0 cap0 lm0
  have H0 : Hid (IsEn w a0 len0 es) := h0
  have H1 : Hid (IsMz w a1 len1 ms) := h1
  have H8 : Hid (Row w a8 len8 zs) := h8
  have HWK : Hid (∀ W, Below w.heap.size w W → Calls Tryz.prog 5 #[] W fun e w' => e = .returned (.bool true) ∧ Below w.heap.size w w') := fun W hb => (works12 W (tab_next hT hb)).mono fun e w' ⟨h1, h2⟩ => ⟨h1, Below.andThen hb h2⟩
  clear h0 h1 h8 hT
  go_enter Tryz.func3, Tryz.ntmps3
  go_wp2_with fail
  refine HS.mono ?_
  rintro e w1 ⟨n, rfl, hn, hf, hb⟩
  have B1 : Hid (Below w.heap.size w w1) := hb
  have HF : Hid (n ≤ 5000 → len0 ≤ 5000 ∧ ∀ e ∈ es, e.ld ≤ 5000 ∧ e.ll ≤ 5000 ∧ e.lh ≤ 5000) := hf
  clear HS hf hb
  by_cases hn5 : 5000 < n
  · have gn : (5000 : Int) < (n : Int) := by omega
    go_wp2_with fail
    refine (HWK.out _ B1.out).mono ?_
    rintro e w2 ⟨rfl, hb⟩
    go_wp2_with fail
    go_ret
    exact ⟨rfl, hb⟩
  have gn : ¬ ((5000 : Int) < (n : Int)) := by omega
  by_cases hl1 : 100 < len1
  · have gl : (100 : Int) < (len1 : Int) := by omega
    go_wp2_with fail
    refine (HWK.out _ B1.out).mono ?_
    rintro e w2 ⟨rfl, hb⟩
    go_wp2_with fail
    go_ret
    exact ⟨rfl, hb⟩
  have gl : ¬ ((100 : Int) < (len1 : Int)) := by omega
  by_cases hl8 : 100 < len8
  · have g8 : (100 : Int) < (len8 : Int) := by omega
    go_wp2_with fail
    refine (HWK.out _ B1.out).mono ?_
    rintro e w2 ⟨rfl, hb⟩
    go_wp2_with fail
    go_ret
    exact ⟨rfl, hb⟩
  have g8 : ¬ ((100 : Int) < (len8 : Int)) := by omega
  have hF := HF.out (by omega)
  obtain ⟨eb, eo, had0, hat0⟩ : ∃ b off, (0 < es.length → a0 = some ⟨b, off, none⟩) ∧ ∀ (k : Nat) (e : Em), es[k]? = some e → EmAtO w1 b off k e := by
    by_cases hz : 0 < len0
    · obtain ⟨b, off, e, h⟩ := H0.out.at_ hz
      exact ⟨b, off, fun _ => e, fun k x hx => (h k x hx).next12 B1.out⟩
    · have hs := H0.out.size
      refine ⟨0, 0, fun h => by omega, fun k x hx => ?_⟩
      have := (List.getElem?_eq_some_iff.1 hx).1
      omega
  have hin : ∀ e ∈ es, EmIn w1 e := fun e he => by
    have a := (H0.out.ok e he).next B1.out
    have b := hF.2 e he
    exact ⟨a.rd, a.rl, a.rh, by omega, by omega, by omega⟩
  have BT := both_any a0 eb eo cap0 es w1 had0 hin hat0 (tab_next HT.out B1.out)
  rw [H0.out.size] at BT
  obtain ⟨g, off, had1, hM1⟩ : ∃ b off, (0 < ms.length → a1 = some ⟨b, off, none⟩) ∧ MzAt w b off ms := by
    by_cases hz : 0 < len1
    · obtain ⟨b, off, e, h⟩ := H1.out.at_ hz
      exact ⟨b, off, fun _ => e, h⟩
    · have hs := H1.out.size
      refine ⟨0, 0, fun h => by omega, fun k x hx => ?_⟩
      have := (List.getElem?_eq_some_iff.1 hx).1
      omega
  have HAD : Hid (0 < ms.length → a1 = some ⟨g, off, none⟩) := had1
  have HM : Hid (MzAt w g off ms) := hM1
  have HI : Hid (∀ x ∈ ms, 0 ≤ x.i ∧ x.i < 65536) := H1.out.ok
  have HL : Hid (ms.length = len1) := H1.out.size
  clear HF hF had0 hat0 hin had1 hM1 hn hn5 hl1
  go_wp2_with fail
  refine BT.mono ?_
  clear BT
  rintro e w2 ⟨hbt, hb⟩
  have BW12 : Hid (Below w1.heap.size w1 w2) := hb
  have B2 : Hid (Below w.heap.size w w2) := Below.andThen B1.out hb
  clear hb
  have Z8 : Hid (zs.length = len8) := H8.out.size
  have l100 : zs.length ≤ 1000 := by have := Z8.out; omega
  obtain ⟨dp, mp, RES, ROWS, R, rfl, UT, hR2, hend⟩ : ∃ dp mp RES ROWS, ∃ R : World → Prop, e = .returned (.tuple #[dp, mp]) ∧ UnTwo w2 R ms dp mp zs RES ROWS ∧ (∀ W, Below w2.heap.size w2 W → R W) ∧ ((dp = .pointer none ∧ (RES = 0 → ROWS = [])) ∨ ∃ p m q v xs I, dp = .pointer (some ⟨p, 0, none⟩) ∧ mp = .pointer (some ⟨q, 0, none⟩) ∧ R = (fun W => DocI W q v xs 0 I) ∧ DicO v.ownBlock w2 p m 0 I ∧ (RES = 0 → ∀ r ∈ ROWS, mayI I r.1 r.2.1 r.2.2) ∧ w1.heap.size ≤ p ∧ w1.heap.size ≤ m ∧ w1.heap.size ≤ q ∧ p ≠ m ∧ ∀ g, v.ownBlock = some g → w1.heap.size ≤ g) := by
    rcases hbt with ⟨hc, p, m, lst, q, v, xs, rfl, hd, l1, l2, l3, l4, l5⟩ | ⟨_, rfl⟩
    · obtain ⟨RES, ROWS, U, hm⟩ := un_some hd hc (tab_next HT.out B2.out) HI.out H8.out.oct l100
      obtain ⟨lo, hbu⟩ := hd.hb
      exact ⟨_, _, RES, ROWS, _, rfl, U, fun W hW => (docI_of_both hd).next hW, .inr ⟨p, m, q, v, xs, itE es, rfl, rfl, rfl, ⟨lst, hd.hp, hd.hm, built_dic hbu hc fun e he => (hd.hg e he).1, tab_next HT.out B2.out, hd.hf2⟩, hm, l1, l2, l3, l4, l5⟩⟩
    · obtain ⟨RES, ROWS, U, hm⟩ := un_none w2 HI.out H8.out.oct l100
      exact ⟨_, _, RES, ROWS, _, rfl, U, fun W hW => hW, .inl ⟨rfl, hm⟩⟩
  have U0 : Hid (UnTwo w2 R ms dp mp zs RES ROWS) := UT
  have R2 : Hid (∀ W, Below w2.heap.size w2 W → R W) := hR2
  have EN : Hid ((dp = .pointer none ∧ (RES = 0 → ROWS = [])) ∨ ∃ p m q v xs I, dp = .pointer (some ⟨p, 0, none⟩) ∧ mp = .pointer (some ⟨q, 0, none⟩) ∧ R = (fun W => DocI W q v xs 0 I) ∧ DicO v.ownBlock w2 p m 0 I ∧ (RES = 0 → ∀ r ∈ ROWS, mayI I r.1 r.2.1 r.2.2) ∧ w1.heap.size ≤ p ∧ w1.heap.size ≤ m ∧ w1.heap.size ≤ q ∧ p ≠ m ∧ ∀ g, v.ownBlock = some g → w1.heap.size ≤ g) := hend
  clear hbt UT hR2 hend
  have PU : Hid (∀ W, Below w2.heap.size w2 W → ∀ (ab : Option Addr) (cb : Nat), Row W ab len8 zs → Calls Tryz.prog 7 #[dp, .slice a1 len1 cap1, .slice ab len8 cb] W (UPost W RES ROWS)) := fun W hW ab cb hr => by
    have := U0.out.p W hW a1 g off cap1 HAD.out (HM.out.next (Below.andThen B2.out hW)) ab cb (by rw [Z8.out]; exact hr)
    rwa [HL.out, Z8.out] at this
  have PL : Hid (∀ W, Below w.heap.size w W → Calls Tryz.prog 9 #[.slice a1 len1 cap1] W fun e w' => ∃ a G c, e = .returned (.slice a len1 c) ∧ (0 < ms.length → a = some ⟨G, 0, none⟩) ∧ MzAt w' G 0 ms ∧ Below W.heap.size W w') := fun W hW => by
    have := plain_any a1 g off cap1 ms W HAD.out (HM.out.next hW) (by have := HL.out; omega)
    rw [HL.out] at this ⊢
    exact this
  have RU : Hid (∀ W, R W → ∀ (a : Option Addr) (G c : Nat), (0 < ms.length → a = some ⟨G, 0, none⟩) → MzAt W G 0 ms → ∀ (ab : Option Addr) (cb : Nat), Row W ab len8 zs → Calls Tryz.prog 8 #[mp, .slice a len1 c, .slice ab len8 cb] W (UPostD W RES ROWS)) := fun W hW a G c ha hm ab cb hr => by
    have := U0.out.r W hW a G 0 c ha hm ab cb (by rw [Z8.out]; exact hr)
    rwa [HL.out, Z8.out] at this
  obtain ⟨st, hst⟩ : ∃ st, Hid (st = strOfNums zs) := ⟨_, rfl⟩
  have SR : Hid (∀ (W : World) (a : Option Addr) (c : Nat), Row W a len8 zs → (convert 24 9 (.slice a len8 c)).run Tryz.prog W = .ok (.string st) W) := fun W a c h => by rw [hst.out]; exact h.str c
  obtain ⟨ca, cc, w3, hrun, rc, fc, b3⟩ := copy_told zs H8.out.oct w2
  rw [Z8.out, ← hst.out] at hrun
  rw [Z8.out] at rc
  have s8 := SR.out w2 a8 cap8 (H8.out.next B2.out)
  have B3 : Hid (Below w2.heap.size w2 w3) := b3
  have RC3 : Hid (Row w3 ca len8 zs) := rc
  have FC : Hid (0 < len8 → ∀ b o, ca = some ⟨b, o, none⟩ → b = w2.heap.size) := fun _ => fc
  clear b3 rc fc l100
  go_wp2_with fail
  clear hrun s8
  refine (PU.out _ B3.out ca cc RC3.out).mono ?_
  rintro e w4 hU
  obtain ⟨RW, hRW⟩ : ∃ RW, Hid (RW = wrN RES ROWS) := ⟨_, rfl⟩
  obtain ⟨L, hLL⟩ : ∃ L, Hid (L = RW.length) := ⟨_, rfl⟩
  have OCT : Hid (∀ r ∈ RW, Oct r.2.2 ∧ r.2.2.length ≤ 8) := fun r hr => by
    rw [hRW.out] at hr
    unfold wrN at hr
    split at hr
    · rename_i h0; exact U0.out.o h0 r hr
    · cases hr
  have L100 : L ≤ 100 := by
    rw [hLL.out, hRW.out]
    unfold wrN
    split
    · exact U0.out.l
    · simp
  obtain ⟨va, vc, us, rfl, hus, hva, hv, hs, hb⟩ := hU.form RW (by rw [hRW.out]; rfl)
  rw [← hLL.out] at hva hus ⊢
  have N4 : Hid (Below w3.heap.size w3 w4) := hb
  have V4 : Hid (IsV w4 w3.heap.size (.slice va us.length vc) us) := hv
  have S4 : Hid (Vs w4 w3.heap.size us RW) := hs
  have L4 : Hid (us.length = L) := hus
  have VA : Hid (0 < L → ∃ g, va = some ⟨g, 0, none⟩) := hva
  have D4 : Hid (Below w2.heap.size w2 w4) := Below.andThen B3.out hb
  clear hU hv hs hb hus hva
  go_wp2_with fail
  refine (PL.out _ (Below.andThen B2.out D4.out)).mono ?_
  rintro e w5 ⟨a5, G5, c5, rfl, hA5, hM5, hb5⟩
  have N5 : Hid (Below w4.heap.size w4 w5) := hb5
  have D5 : Hid (Below w2.heap.size w2 w5) := Below.andThen D4.out hb5
  have R5 := RU.out w5 (R2.out w5 D5.out) a5 G5 c5 hA5 hM5 a8 cap8 (H8.out.next (Below.andThen B2.out D5.out))
  clear hA5 hM5 hb5
  go_wp2_with fail
  refine R5.mono ?_
  rintro e w6 hU
  obtain ⟨ya, yc, ys, rfl, hus, hva, hv, hs, hb⟩ := hU.form RW (by rw [hRW.out]; rfl)
  rw [← hLL.out] at hva hus ⊢
  have D6 : Hid (Below w2.heap.size w2 w6) := Below.andThen D5.out hb
  have N46 : Hid (Below w4.heap.size w4 w6) := Below.andThen N5.out hb
  have N36 : Hid (Below w3.heap.size w3 w6) := Below.andThen N4.out N46.out
  have V6 : Hid (IsV w6 w3.heap.size (.slice va us.length vc) us) := V4.out.next N46.out
  have S6 : Hid (Vs w6 w3.heap.size us RW) := S4.out.mv fun g' C hg' => blk11 N46.out hg'
  have Y6 : Hid (IsU w6 w5.heap.size (.slice ya ys.length yc) ys) := hv
  have T6 : Hid (Vs w6 w5.heap.size ys RW) := hs
  have L6 : Hid (ys.length = L) := hus
  have YA : Hid (0 < L → ∃ g, ya = some ⟨g, 0, none⟩) := hva
  have S45 : Hid (w4.heap.size ≤ w5.heap.size) := N5.out.size
  clear R5 hU hv hs hb hus hva
  go_wp2_with fail
  go_loopw [14] (fun iv wr => ∃ k : Nat, k ≤ L ∧ iv = .int .i64 (k : Int) ∧ Hid (Below w3.heap.size w3 wr ∧ ∀ b, b < w6.heap.size → (∀ (j : Nat) (u : Vq), j < k → us[j]? = some u → u.g ≠ b) → wr.heap[b]? = w6.heap[b]?)) (fun iv _ => L - (intOf iv).toNat)
  case atStart => exact ⟨0, Nat.zero_le _, rfl, N36.out, fun b _ _ => rfl⟩
  case round =>
    obtain ⟨k, hk, rfl, HR⟩ := hrel
    by_cases hkL : k < L
    · have gk : (k : Int) < (L : Int) := by omega
      have gk0 : (0 : Int) ≤ (k : Int) := by omega
      obtain ⟨gv, rfl⟩ := VA.out (by omega)
      obtain ⟨gu, rfl⟩ := YA.out (by omega)
      obtain ⟨rr, hrr⟩ : ∃ rr, RW[k]? = some rr := ⟨_, List.getElem?_eq_getElem (by have := hLL.out; omega)⟩
      obtain ⟨ri, rs, rz⟩ := rr
      obtain ⟨gx, q1, ⟨bx, lx⟩, o1⟩ := S6.out.2 k _ hrr
      obtain ⟨gy, q2, ⟨by9, ly⟩, o2⟩ := T6.out.2 k _ hrr
      have OZ : Hid (Oct rz) := (OCT.out _ (List.mem_of_getElem? hrr)).1
      have R8 : Hid (rz.length ≤ 8) := (OCT.out _ (List.mem_of_getElem? hrr)).2
      have UB : ∀ (j : Nat) (u : Vq), us[j]? = some u → u.g < w4.heap.size ∧ ∃ C, w6.heap[u.g]? = some (.cells C 5 (0, 0)) := fun j u hu => by
        have hj := (List.getElem?_eq_some_iff.1 hu).1
        have hj2 : j < RW.length := by rw [← S6.out.1]; exact hj
        obtain ⟨g9, h1, _, h3⟩ := S6.out.2 j RW[j] (List.getElem?_eq_getElem hj2)
        rw [hu] at h1
        cases h1
        exact ⟨S4.out.lt j _ hu, _, h3⟩
      have CELLS : Hid (∀ z : World, (∀ b, b < w6.heap.size → (∀ (j : Nat) (u : Vq), j < k + 1 → us[j]? = some u → u.g ≠ b) → z.heap[b]? = w6.heap[b]?) → (z.cell? ⟨gv, k * 3, none⟩ = some (.int .u16 ri) ∧ z.cell? ⟨gv, k * 3 + 1, none⟩ = some (.int .u8 rs) ∧ z.cell? ⟨gv, k * 3 + 2, none⟩ = some (.slice (some ⟨gx, 0, none⟩) rz.length rz.length)) ∧ z.cell? ⟨gu, k * 3, none⟩ = some (.int .u16 ri) ∧ z.cell? ⟨gu, k * 3 + 1, none⟩ = some (.int .u8 rs) ∧ z.cell? ⟨gu, k * 3 + 2, none⟩ = some (.slice (some ⟨gy, 0, none⟩) rz.length rz.length)) := fun z hz => by
        obtain ⟨c0, c1, c2⟩ := V6.out.at k _ q1
        obtain ⟨d0, d1, d2⟩ := Y6.out.at k _ q2
        have e1 := hz gv (block_lt_of_cell c0) (fun j u _ hu e => by
          obtain ⟨-, C, hC⟩ := UB j u hu
          exact V6.out.ne hC (by decide) (by rw [e]; rfl))
        have e2 := hz gu (block_lt_of_cell d0) (fun j u _ hu e => by
          obtain ⟨-, C, hC⟩ := UB j u hu
          exact Y6.out.ne hC (by decide) (by rw [e]; rfl))
        exact ⟨⟨(World.cell?_of_block e1).trans c0, (World.cell?_of_block e1).trans c1, (World.cell?_of_block e1).trans c2⟩, (World.cell?_of_block e2).trans d0, (World.cell?_of_block e2).trans d1, (World.cell?_of_block e2).trans d2⟩
      have O1 : Hid (wr.heap[gx]? = some (.cells (rz.map (Value.int .u8)).toArray 5 (0, 0))) := (HR.out.2 gx (lt_of_heap o1) (fun j u hj hu => Nat.ne_of_lt (lx j u hj hu))).trans o1
      have O2 : Hid (wr.heap[gy]? = some (.cells (rz.map (Value.int .u8)).toArray 5 (0, 0))) := (HR.out.2 gy (lt_of_heap o2) (fun j u hj hu => by have := (UB j u hu).1; have := S45.out; omega)).trans o2
      obtain ⟨⟨c0, c1, c2⟩, d0, d1, d2⟩ := CELLS.out wr (fun b hb h => HR.out.2 b hb (fun j u hj => h j u (by omega)))
      have s1 := fun n => ((row_own rfl OZ.out O1.out).next (below_drewN (Below.refl _ _) n)).str rz.length
      have s2 := fun n => ((row_own rfl OZ.out O2.out).next (below_drewN (Below.refl _ _) n)).str rz.length
      obtain ⟨rn, hrn⟩ : ∃ rn, Hid (rn = rz.length) := ⟨_, rfl⟩
      obtain ⟨sx, hsx⟩ : ∃ sx, Hid (sx = strOfNums rz) := ⟨_, rfl⟩
      rw [← hsx.out] at s1 s2
      have BX : Hid (w3.heap.size ≤ gx) := bx
      have QX : Hid (us[k]? = some ⟨ri, rs, gx, rz.length⟩) := q1
      have R9 : Hid (rn ≤ 8) := by rw [hrn.out]; exact R8.out
      try dsimp only at c0 c1 c2 d0 d1 d2 s1 s2
      rw [← hrn.out] at c2 d2 s1 s2 CELLS
      have ne := nePl ri rs
      have wk : IntKind.i64.wrap ((k : Int) + 1) = ((k + 1 : Nat) : Int) := by rw [IntKind.wrap_i64]; omega
      clear hrr q1 q2 o1 o2 lx ly bx by9 UB
      go_wp2_with fail
      go_quiet (fail)
      go_wp2_with fail
      clear c0 c1 c2 d0 d1 d2 s1 s2
      obtain ⟨wo, rfl⟩ : ∃ z, z = wr := ⟨_, rfl⟩
      go_loopw [15] (fun jv wr => ∃ n : Nat, n ≤ rn ∧ jv = .int .i64 (n : Int) ∧ Hid (Below w3.heap.size w3 wr ∧ (∃ ys9 : List Int, ys9.length = rn ∧ wr.heap[gx]? = some (.cells (ys9.map (Value.int .u8)).toArray 5 (0, 0))) ∧ ∀ b, b < w6.heap.size → (∀ (j : Nat) (u : Vq), j < k + 1 → us[j]? = some u → u.g ≠ b) → wr.heap[b]? = w6.heap[b]?)) (fun jv _ => rn - (intOf jv).toNat)
      case atStart => exact ⟨0, Nat.zero_le _, rfl, ⟨HR.out.1.os, HR.out.1.tape, HR.out.1.output, HR.out.1.size, HR.out.1.block⟩, ⟨rz, hrn.out.symm, O1.out⟩, fun b hb h => HR.out.2 b hb (fun j u hj => h j u (by omega))⟩
      case round =>
        obtain ⟨n, hn9, rfl, HQ⟩ := hrel
        obtain ⟨⟨c0, c1, c2⟩, -⟩ := CELLS.out wr HQ.out.2.2
        by_cases hnr : n < rn
        · have gn : (n : Int) < (rn : Int) := by omega
          have gn0 : (0 : Int) ≤ (n : Int) := by omega
          obtain ⟨ys9, y1, y2⟩ := HQ.out.2.1
          have ck : wr.cell? ⟨gx, n, none⟩ = some (.int .u8 (ys9.getD n 0)) := by
            rw [cell_of_row wr _ _ _ _ _ y2, List.getElem?_toArray, List.getElem?_map, List.getD_eq_getElem?_getD, List.getElem?_eq_getElem (by omega)]
            rfl
          obtain ⟨z9, hz9⟩ : ∃ z, Hid (z = ys9.getD n 0) := ⟨_, rfl⟩
          rw [← hz9.out] at ck
          have fz : wr.frozen? ⟨gx, n, none⟩ = false := frozen_of_row _ _ _ _ _ y2
          have F9 : Hid (Below w3.heap.size w3 (wr.setCell ⟨gx, n, none⟩ (.int .u8 9)) ∧ (∃ ys9 : List Int, ys9.length = rn ∧ (wr.setCell ⟨gx, n, none⟩ (.int .u8 9)).heap[gx]? = some (.cells (ys9.map (Value.int .u8)).toArray 5 (0, 0))) ∧ ∀ b, b < w6.heap.size → (∀ (j : Nat) (u : Vq), j < k + 1 → us[j]? = some u → u.g ≠ b) → (wr.setCell ⟨gx, n, none⟩ (.int .u8 9)).heap[b]? = w6.heap[b]?) := by
            refine ⟨Below.setCell HQ.out.1 (by simpa using BX.out) _, ⟨ys9.set n 9, by simp [y1], ?_⟩, fun b hb h => ?_⟩
            · rw [heap_setCell_same _ _ _ _ _ _ y2, List.map_set]
              simp
            · rw [Below.heap_setCell _ _ _ _ (fun e => h k _ (by omega) QX.out (by simpa using e.symm))]
              exact HQ.out.2.2 b hb h
          have wn : IntKind.i64.wrap ((n : Int) + 1) = ((n + 1 : Nat) : Int) := by rw [IntKind.wrap_i64]; have := R9.out; omega
          clear y1 y2 hz9 HQ
          go_wp2_with fail
          exact ⟨⟨n + 1, by omega, by go_num, F9.out⟩, by simp [intOf]; omega⟩
        · obtain rfl : n = rn := by omega
          have gn : ¬ ((n : Int) < (n : Int)) := by omega
          have F9 : Hid (Below w3.heap.size w3 wr ∧ ∀ b, b < w6.heap.size → (∀ (j : Nat) (u : Vq), j < k + 1 → us[j]? = some u → u.g ≠ b) → wr.heap[b]? = w6.heap[b]?) := ⟨HQ.out.1, HQ.out.2.2⟩
          clear HQ
          go_wp2_with fail
          exact ⟨⟨k + 1, by omega, by go_num, F9.out⟩, by simp [intOf]; omega⟩
    · obtain rfl : k = L := by omega
      have gk : ¬ ((k : Int) < (k : Int)) := by omega
      have N7 : Hid (Below w3.heap.size w3 wr) := HR.out.1
      have D7 : Hid (Below w2.heap.size w2 wr) := Below.andThen B3.out N7.out
      have RC7 : Hid (Row wr ca len8 zs) := RC3.out.next N7.out
      clear HR
      rcases EN.out with ⟨rfl, h0⟩ | ⟨p, m, q, v, xs, I, rfl, rfl, rfl, hDO, hmay, l1, l2, l3, l4, l5⟩
      · have WE := wr_empty (.pointer none) _ _ RES ROWS wr h0 (PU.out wr D7.out ca cc RC7.out)
        go_wp2_with fail
        refine WE.mono ?_
        rintro e w8 ⟨rfl, hb8⟩
        clear WE
        go_wp2_with fail
        refine (HWK.out _ (Below.andThen B2.out (Below.andThen D7.out hb8))).mono ?_
        rintro e w9 ⟨rfl, hb⟩
        go_wp2_with fail
        go_ret
        exact ⟨rfl, hb⟩
      · have DO2 : Hid (DicO v.ownBlock w2 p m 0 I) := hDO
        have MAY : Hid (RES = 0 → ∀ r ∈ ROWS, mayI I r.1 r.2.1 r.2.2) := hmay
        have LO : Hid (w1.heap.size ≤ p ∧ w1.heap.size ≤ m ∧ w1.heap.size ≤ q ∧ p ≠ m ∧ ∀ g, v.ownBlock = some g → w1.heap.size ≤ g) := ⟨l1, l2, l3, l4, l5⟩
        have DI2 : Hid (∀ W, Below w2.heap.size w2 W → DocI W q v xs 0 I) := R2.out
        have UP : Hid (p < w2.heap.size ∧ m < w2.heap.size ∧ q < w2.heap.size ∧ ∀ g, v.ownBlock = some g → g < w2.heap.size) := by
          have d := R2.out w2 (Below.refl _ _)
          obtain ⟨bs, hx⟩ := d.hx
          exact ⟨hDO.lt.1, hDO.lt.2, lt_of_heap d.hq, fun g hg => (hx.lt g hg).2⟩
        clear hDO hmay l1 l2 l3 l4 l5 EN R2
        obtain ⟨lst7, hp7, hm7, hI7, -, -⟩ := DO2.out.next D7.out
        have SM := same_I (DI2.out wr D7.out) hp7 hm7 hI7
        clear hp7 hm7 hI7
        go_wp2_with fail
        refine SM.mono ?_
        rintro e w8 ⟨rfl, hb8⟩
        have D8 : Hid (Below w2.heap.size w2 w8) := Below.andThen D7.out hb8
        have RC8 : Hid (Row w8 ca len8 zs) := RC7.out.next hb8
        clear SM hb8
        have PW := pw_two U0.out MAY.out rfl LO.out.2.2.2.1 w8 D8.out (DO2.out.next D8.out) (fun g hg => by have := UP.out.2.2.2 g hg; have := D8.out.size; omega) a1 g off cap1 HAD.out (HM.out.next (Below.andThen B2.out D8.out)) ca cc (by rw [Z8.out]; exact RC8.out)
        rw [HL.out, Z8.out] at PW
        go_wp2_with fail
        refine PW.mono ?_
        rintro e w9 ⟨rfl, hD9, hk9⟩
        have DO9 : Hid (DicO v.ownBlock w9 p m (((wrN RES ROWS).length : Nat) : Int) (putA I (wrN RES ROWS))) := hD9
        have K9 : Hid (Kp [p, m] w8 w9) := hk9
        have DI9 : Hid (DocI w9 q v xs 0 I) := by
          obtain ⟨lst8, hp8, hm8, -⟩ := DO2.out.next D8.out
          exact (DI2.out w8 D8.out).kpP hp8 hm8 hk9
        have RC9 : Hid (Row w9 ca len8 zs) := RC8.out.offS hk9 fun h b o e => by have := FC.out h b o e; have := UP.out; simp; omega
        have E9 : Hid (Below w1.heap.size w1 w9) := Kp.below (Below.andThen (show Below w1.heap.size w1 w2 from BW12.out) D8.out) hk9 (by have := BW12.out.size; have := D8.out.size; omega) (by have := LO.out; simp; omega)
        clear PW hD9 hk9
        go_wp2_with fail
        refine (PL.out _ (Below.andThen B1.out E9.out)).mono ?_
        rintro e w10 ⟨a10, G10, c10, rfl, hA10, hM10, hb10⟩
        have E10 : Hid (Below w1.heap.size w1 w10) := Below.andThen E9.out hb10
        have DI10 : Hid (DocI w10 q v xs 0 I) := DI9.out.next hb10
        have DO10 : Hid (DicO v.ownBlock w10 p m (((wrN RES ROWS).length : Nat) : Int) (putA I (wrN RES ROWS))) := DO9.out.next hb10
        have RC10 : Hid (Row w10 ca len8 zs) := RC9.out.next hb10
        have R10 : Hid (Row w10 a8 len8 zs) := H8.out.next (Below.andThen B1.out E10.out)
        have S10 : Hid (w2.heap.size ≤ w10.heap.size) := by have := D8.out.size; have := K9.out.size; have := hb10.size; show _ ≤ _; omega
        have RW9 := rw_two U0.out MAY.out rfl w10 DI10.out a10 G10 0 c10 hA10 hM10 a8 cap8 (by rw [Z8.out]; exact R10.out)
        rw [HL.out, Z8.out] at RW9
        clear hA10 hM10 hb10
        go_wp2_with fail
        refine RW9.mono ?_
        rintro e w11 ⟨rfl, ⟨xs11, hd11⟩, hk11⟩
        have DI11 : Hid (DocI w11 q v xs11 (((wrN RES ROWS).length : Nat) : Int) (putA I (wrN RES ROWS))) := hd11
        obtain ⟨lst11, hp11, hm11, hI11⟩ := DO10.out.kpX DI10.out hk11
        have mem : ∀ b, b ∈ blks q v.ownBlock → w1.heap.size ≤ b ∧ b < w2.heap.size := fun b hb => by
          rcases List.mem_cons.1 hb with rfl | hb
          · exact ⟨LO.out.2.2.1, UP.out.2.2.1⟩
          · cases hv : v.ownBlock with
            | none => rw [hv] at hb; cases hb
            | some j =>
              rw [hv] at hb
              simp at hb
              rw [hb]
              exact ⟨LO.out.2.2.2.2 j hv, UP.out.2.2.2 j hv⟩
        have E11 : Hid (Below w1.heap.size w1 w11) := Kp.below E10.out hk11 (by have := E10.out.size; omega) (fun b hb => (mem b hb).1)
        have RC11 : Hid (Row w11 ca len8 zs) := RC10.out.offS hk11 fun h b o e hb => by have := FC.out h b o e; have := (mem b hb).2; omega
        have R11 : Hid (Row w11 a8 len8 zs) := H8.out.next (Below.andThen B1.out E11.out)
        have SM := same_I DI11.out hp11 hm11 hI11
        clear RW9 hd11 hk11 hp11 hm11 hI11 mem
        go_wp2_with fail
        refine SM.mono ?_
        rintro e w12 ⟨rfl, hb12⟩
        have t1 := SR.out w12 ca cc (RC11.out.next hb12)
        have t2 := SR.out w12 a8 cap8 (R11.out.next hb12)
        have E12 : Hid (Below w1.heap.size w1 w12) := Below.andThen E11.out hb12
        clear SM hb12
        go_wp2_with fail
        refine (HWK.out _ (Below.andThen B1.out E12.out)).mono ?_
        rintro e w13 ⟨rfl, hb⟩
        go_wp2_with fail
        go_ret
        exact ⟨rfl, hb⟩
#print axioms mappingWrites_any
end Go.Proofs.YtajllkkbgpijiaaGreatDoor
namespace Go.Proofs.YtajllkkbgpijiaaGreatDoor
open Go.ChangeShapes Go.WideShapes Go.ChangeAt Go.RowKit
open Go.ChangeMaps (open_string shut_string)

namespace mappingWrites
theorem laid_met (os : Os) : laidMet Tryz.prog Rows.mappingWritesRow.laid (({ World.holding Tryz.prog os ⟨#[], #[], []⟩ with heap := (World.holding Tryz.prog os ⟨#[], #[], []⟩).heap.modify 1 (put (Lib.deBruijn64tab.map fun n : Nat => Value.int .u8 (n : Int)).toArray) } : World).forCall (fun _ _ => 0) ⟨#[], #[.slice none 0 0, .slice none 0 0, .slice none 0 0], []⟩).memory :=
  laidMet_of_run' 8 (by kernel_rfl) (by kernel_rfl)
theorem reads (os : Os) {H : Type} (enc : TypeId × Value → H) : ∃ places, DataW.whole enc Tryz.prog (({ World.holding Tryz.prog os ⟨#[], #[], []⟩ with heap := (World.holding Tryz.prog os ⟨#[], #[], []⟩).heap.modify 1 (put (Lib.deBruijn64tab.map fun n : Nat => Value.int .u8 (n : Int)).toArray) } : World).forCall (fun _ _ => 0) ⟨#[], #[.slice none 0 0, .slice none 0 0, .slice none 0 0], []⟩).memory Tryz.f3.params.toList Rows.mappingWritesSpec.vars false (#[.slice none 0 0, .slice none 0 0, .slice none 0 0] : Array Value).toList 8 = some ([.nil, .nil, .nil], [], places) :=
  ⟨[], by kernel_rfl⟩

set_option maxRecDepth 100000 in
theorem contract (H : Type) (enc : TypeId × Value → H) (W : World) (base : Nat) (args : Array Value) (ds gs : List (DataW H)) (before : List MemPlace)
    (hval : ∀ (j : Nat) t v, Tryz.f3.params[j]? = some t → args[j]? = some v → Value.okWide Tryz.prog W .any base t v)
    (hW : DataW.Whole enc Tryz.prog Tryz.f3.params.toList Rows.mappingWritesSpec.vars false W args.toList ds gs before) (hL : laidMetH Tryz.prog Rows.mappingWritesRow.laid W) (hsz : ∀ (j : Nat) (t : TypeId) (d : DataW H), Tryz.f3.params.toList[j]? = some t → ds[j]? = some d → ∀ n ∈ d.weights Tryz.prog t, n ≤ reachBytes) :
    Calls Tryz.prog 3 args W fun e W' => ∃ v, e = .returned v ∧ Rows.mappingWritesSpec.post enc Tryz.prog Tryz.f3 false true false false W args v W' := by
  have hW' := hW
  obtain ⟨p, q, hA0, hV, rfl, hfz, hnd⟩ := hW
  have hA : DataW.TrodAll enc Tryz.prog W 0 (fun _ => true) true Tryz.f3.params.toList args.toList ds p := hA0
  rw [Tryz.params3] at hA hval hsz
  obtain ⟨v0, vs0, d0, ds0, p0, q0, hargs, rfl, rfl, h0, r0⟩ := trodAll_cons hA
  obtain ⟨v1, vs1, d1, ds1, p1, q1, rfl, rfl, rfl, h1, r1⟩ := trodAll_cons r0
  obtain ⟨v2, vs2, d2, ds2, p2, q2, rfl, rfl, rfl, h2, r2⟩ := trodAll_cons r1
  obtain ⟨rfl, rfl, rfl⟩ := trodAll_nil r2
  obtain rfl : args = #[v0, v1, v2] := by cases args; simp_all
  obtain ⟨rfl, rfl⟩ := trodVars_none hV
  have k0 := h0
  have lt0 : ∀ x ∈ p0, x.block < W.heap.size := by obtain ⟨m, hm⟩ := k0; exact DataW.trod_lt m _ _ _ hm
  obtain ⟨a0, len0, cap0, rfl⟩ := okWide_slice Tryz.underlying22 (hval 0 22 v0 rfl rfl)
  obtain ⟨l0, o0, lc0⟩ : ∃ l, IsEn W a0 len0 l ∧ len0 ≤ maxLen := by
    obtain ⟨fuel, hf⟩ := h0
    obtain ⟨a', len', cap', l, e, ho, hc, hm⟩ := open_en (v := .slice a0 len0 cap0) hf (hsz 0 22 _ rfl rfl)
    cases e
    exact ⟨l, ho, Nat.le_trans hc hm⟩
  have k1 := h1
  have lt1 : ∀ x ∈ p1, x.block < W.heap.size := by obtain ⟨m, hm⟩ := k1; exact DataW.trod_lt m _ _ _ hm
  obtain ⟨a1, len1, cap1, rfl⟩ := okWide_slice Tryz.underlying23 (hval 1 23 v1 rfl rfl)
  obtain ⟨l1, o1⟩ : ∃ l, IsMz W a1 len1 l := by
    obtain ⟨fuel, hf⟩ := h1
    obtain ⟨a', len', cap', l, e, ho, hc, hm⟩ := open_mz (v := .slice a1 len1 cap1) hf
    cases e
    exact ⟨l, ho⟩
  have k2 := h2
  have lt2 : ∀ x ∈ p2, x.block < W.heap.size := by obtain ⟨m, hm⟩ := k2; exact DataW.trod_lt m _ _ _ hm
  obtain ⟨a2, len2, cap2, rfl⟩ := okWide_slice Tryz.underlying24 (hval 2 24 v2 rfl rfl)
  obtain ⟨z2, o2, lc2⟩ : ∃ zs, Row W a2 len2 zs ∧ len2 ≤ cap2 := by
    obtain ⟨fuel, hf⟩ := h2
    obtain ⟨a', zs, cap', e, hr, hc, hm, hz⟩ := open_rowO (cs := [.slice a2 len2 cap2]) hf (hsz 2 24 _ rfl rfl)
    cases e
    exact ⟨zs, hr, hc⟩
  clear hA0
  refine (mappingWrites_any o0 cap0 lc0 o1 cap1 o2 cap2 (tab10 hL)).mono fun e W' ⟨he, bel⟩ => ?_
  subst he
  exact ⟨_, rfl, _, _, _, [], _, [], hW', trodAll_mk1 (shut_bool Tryz.underlying4 _), (trodAll_cons_mk (Below.trod laidOut (by kernel_rfl) (of_decide_eq_true (by kernel_rfl)) k0 bel lt0) (trodAll_cons_mk (Below.trod laidOut (by kernel_rfl) (of_decide_eq_true (by kernel_rfl)) k1 bel lt1) (trodAll_cons_mk (Below.trod laidOut (by kernel_rfl) (of_decide_eq_true (by kernel_rfl)) k2 bel lt2) trodAll_mk0))), rfl, bel.frame _, fun h => by cases h⟩

set_option maxRecDepth 100000 in
theorem lifted (os : Os) (started : os.Started) (H : Type) (enc : TypeId × Value → H) (F : Stop.Interp) :
    ReturnsInHanded {} Tryz.checked os 3 .any ((OpenSpec.ofChange Rows.mappingWritesSpec).preRow enc Tryz.prog Tryz.f3 Rows.mappingWritesRow.domain false Rows.mappingWritesRow.laid) (((OpenSpec.ofChange Rows.mappingWritesSpec).at F).post enc Tryz.prog Tryz.f3 false true false false) := by
  obtain ⟨places, hx⟩ := reads os enc
  refine returnsInHanded_of_row (C := Tryz.checked) (s := OpenSpec.ofChange Rows.mappingWritesSpec) own started (by kernel_rfl) Tryz.func3
    (witness_row_at (enc := enc) (C := Tryz.checked) false ({ World.holding Tryz.prog os ⟨#[], #[], []⟩ with heap := (World.holding Tryz.prog os ⟨#[], #[], []⟩).heap.modify 1 (put (Lib.deBruijn64tab.map fun n : Nat => Value.int .u8 (n : Int)).toArray) } : World) #[.slice none 0 0, .slice none 0 0, .slice none 0 0] rfl (by kernel_rfl) (by kernel_rfl) (by kernel_rfl)
      (OpenSpec.preRow_of_cond 8 hx (by kernel_rfl) (fun k hk => by cases hk) (by kernel_rfl) (laid_met os))) ?_
  intro W base args ds gs before hval hW _ _ hsz hL _ _
  exact contract H enc W base args ds gs before hval hW hL (sized_of hsz)

theorem said : Rows.MappingWritesSaid :=
  OpenClaim.holds_of_cond 3 Tryz.f3 rfl rfl rfl rfl rfl rfl rfl ⟨rfl, rfl, rfl, rfl, rfl⟩ rfl rfl rfl rfl rfl (by kernel_rfl) Tryz.func3 (by kernel_rfl)
    (of_decide_eq_true (by kernel_rfl)) (by unfold Func.isWrapper; first | (rw [if_pos (by decide +kernel)]; kernel_rfl) | (rw [if_neg (by decide +kernel)]; exact ⟨rfl, rfl⟩))
    (fun os started H enc _ F => by rw [OpenClaim.pre_eq_preRow]; exact lifted os started H enc F)

theorem plain (f : FuncId) (fn : Func) (hf : Tryz.pinned.checked.prog.funcNamed "campanile/campanilelaw12.MappingWrites" = some f) (hfn : Tryz.pinned.checked.prog.funcs[f]? = some fn) :
    false = Tryz.pinned.checked.prog.looks [] ∧ ∀ (j : Nat) t, fn.params[j]? = some t → Tryz.pinned.checked.prog.wantsStandIn t = false := by
  obtain rfl : f = 3 := Option.some.inj ((show Tryz.prog.funcNamed "campanile/campanilelaw12.MappingWrites" = some 3 by kernel_rfl).symm.trans hf) |>.symm
  obtain rfl : fn = Tryz.f3 := (Option.some.inj (Tryz.func3.symm.trans hfn)).symm
  refine ⟨by kernel_rfl, fun j t ht => ?_⟩
  rw [Tryz.params3] at ht
  have hm := Array.mem_of_getElem? ht
  simp at hm
  rcases hm with rfl | rfl | rfl
  · exact (show Tryz.prog.wantsStandIn 22 = false by kernel_rfl)
  · exact (show Tryz.prog.wantsStandIn 23 = false by kernel_rfl)
  · exact (show Tryz.prog.wantsStandIn 24 = false by kernel_rfl)
end mappingWrites

/-- MappingWrites, the tied card. -/
theorem mappingWrites_holds : Rows.MappingWritesCardSaid :=
  Claim7.holds_tied_plain_at .later [] _ _ _ _ mappingWrites.said (fun _ h => by cases h) (by kernel_rfl) (fun _ h => by cases h) mappingWrites_row_tie rfl ⟨rfl, rfl⟩ (by kernel_rfl) rfl mappingWrites.plain (by kernel_rfl)
#print axioms mappingWrites_holds
end Go.Proofs.YtajllkkbgpijiaaGreatDoor
