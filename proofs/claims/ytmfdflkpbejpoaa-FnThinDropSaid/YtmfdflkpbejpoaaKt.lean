/- A list of points as a chain of knots, in the program. -/
import Derived.Test.YtmfdflkpbejpoaaBk
namespace Go.Proofs.Ytmfdflkpbejpoaa
open Go.RowKit Go.Shelf
set_option linter.unusedVariables false
attribute [local go_sem] Oper.semAt_some

set_option maxRecDepth 100000 in
set_option maxHeartbeats 4000000 in
theorem knotsOf_any (b off m cap : Nat) (Y : Nat → Int) (w : World) (hm : m ≤ 1000) (hmc : m ≤ cap) (hbl : b < w.heap.size) (hc : ∀ i, i < m → w.cell? ⟨b, off + i, none⟩ = some (.int .i64 (Y i))) :
    Calls Try.prog 79 #[.slice (some ⟨b, off, none⟩) m cap] w (KtPost (fnL Y m) w) := by
  have HC := Lib.hid hc
  clear hc
  refine (callsIn_wide (n := 5)).1 ?_
  refine callsIn_of_wp_marks Try.func79 rfl trivial ?_ rfl
  simp only [Try.ntmps79, List.size_toArray, List.length_cons, List.length_nil, Nat.reduceAdd, Nat.reduceSub, Array.replicate_succ, Array.replicate_zero, List.push_toArray, List.append_toArray, List.nil_append, List.cons_append]
  gi_wp2_with (refine ⟨trivial, ?_⟩; gi_at_call 86; refine (callsIn_wide.2 (bk_any _ _ _ _)).mono ?_; rintro e w' ⟨rfl, rfl⟩)
  obtain ⟨k1, k2, ksz, kb⟩ := bk_two w (.cells #[.pointer none] 50) (.cells #[.slice (some ⟨b, off, none⟩) m cap] 23)
  generalize hW0 : (w.alloc (.cells #[.pointer none] 50)).alloc (.cells #[.slice (some ⟨b, off, none⟩) m cap] 23) = W0 at k1 k2 ksz kb ⊢
  clear hW0
  have hB0 : Boxed W0 w.heap.size 50 (.pointer none) := k1
  refine wpIn_rangeFunc_ownG rfl (by omega) (gf := 89) (lb := #[.pointer (some ⟨w.heap.size + 1, 0, none⟩)]) rfl trivial (enters_of Try.func89 (by kernel_rfl) rfl)
    (bk_stops 4 (by omega) (w.heap.size + 1) b off m cap Y W0 (by omega) (by omega) hm hmc (by simp [World.cell?, k2]) (fun i hi => (kb.cell (p := ⟨b, off + i, none⟩) hbl).trans (HC.out i hi))) Kc.trans (kc_b (by omega) (by omega)) (Below.refl _ _) (fun _ => rfl)
    (fun pre W => ((∃ p hi, hi ≤ W.heap.size ∧ Boxed W w.heap.size 50 p ∧ Kn (w.heap.size + 2) W hi p (ptL Y pre)) ∧ W.heap[w.heap.size + 1]? = some (.cells #[.slice (some ⟨b, off, none⟩) m cap] 23 (0, 0))) ∧ Below w.heap.size w W)
    (fun _ _ _ => False)
    (OwnFrom.and (OwnFrom.and (Kn.own (fun pre => ptL Y pre) _ _ _) (keep_blk (by omega))) (ownFrom_below (Nat.le_refl _) (by omega))) (fun _ _ _ _ _ hs _ _ => hs) ⟨⟨⟨_, W0.heap.size, Nat.le_refl _, hB0, rfl⟩, k2⟩, kb⟩
    (fun x => { tmps := #[.slice (some ⟨b, off, none⟩) m cap, undef, .pointer none, .pointer (some ⟨w.heap.size, 0, none⟩), undef, .int .i64 (Y x), .slice (some ⟨b, off, none⟩) m cap, .func (.func 89) #[] #[.pointer (some ⟨w.heap.size + 1, 0, none⟩)], .int .i64 x, .int .i64 (Y x), undef, undef, undef, undef, undef], defers := [] }) ?assign ?body ?done ?stop
  case assign =>
    intro l x W K hK
    gi_wp2
    simpa using hK
  case body =>
    rintro l pre x W ⟨⟨⟨p, hi, hhi, hbx, hkn⟩, hl⟩, hB⟩ hpl
    obtain ⟨q, rfl⟩ := hkn.ptr
    have c1 := hbx.cell; have f1 := hbx.frozen
    have hS : w.heap.size < W.heap.size := hbx.lt
    have hS2 : w.heap.size + 1 < W.heap.size := (Array.getElem?_eq_some_iff.1 hl).1
    have hBW := hB.size
    have HSN := Lib.hid (ptL_snoc Y pre x)
    obtain ⟨y, ey⟩ : ∃ y, Y x = y := ⟨_, rfl⟩
    rw [ey] at HSN
    rw [ey]
    have hbs := hbx.set (.pointer (some ⟨W.heap.size, 0, none⟩))
    have hz1 : (W.setCell ⟨w.heap.size, 0, none⟩ (.pointer (some ⟨W.heap.size, 0, none⟩))).heap.size = W.heap.size := by simp [World.setCell]
    have hset : ∀ k, k ≠ w.heap.size → k < W.heap.size → ((W.setCell ⟨w.heap.size, 0, none⟩ (.pointer (some ⟨W.heap.size, 0, none⟩))).alloc (.cells #[.int .i64 y, .pointer q] 76)).heap[k]? = W.heap[k]? := fun k hk hl => (Below.heap_alloc _ _ _ (by rw [hz1]; exact hl)).trans (Below.heap_setCell _ _ _ _ (by simpa using hk))
    have hnew := heap_alloc_new (W.setCell ⟨w.heap.size, 0, none⟩ (.pointer (some ⟨W.heap.size, 0, none⟩))) (.cells #[.int .i64 y, .pointer q] 76)
    rw [hz1] at hnew
    have hsz : ((W.setCell ⟨w.heap.size, 0, none⟩ (.pointer (some ⟨W.heap.size, 0, none⟩))).alloc (.cells #[.int .i64 y, .pointer q] 76)).heap.size = W.heap.size + 1 := by rw [World.size_alloc, hz1]
    have HBS := Lib.hid (hbs.alloc (.cells #[.int .i64 y, .pointer q] 76))
    have HSET := Lib.hid hset
    have HNEW := Lib.hid hnew
    have HSZ := Lib.hid hsz
    have HKO := Lib.hid ((KeepsOthers.setCell W ⟨w.heap.size, 0, none⟩ (.pointer (some ⟨W.heap.size, 0, none⟩))).trans (KeepsOthers.alloc _ (.cells #[.int .i64 y, .pointer q] 76)))
    have HBB := Lib.hid ((hB.setCell (p := ⟨w.heap.size, 0, none⟩) (Nat.le_refl _) (.pointer (some ⟨W.heap.size, 0, none⟩))).alloc (by rw [hz1]; exact hBW) (.cells #[.int .i64 y, .pointer q] 76))
    have HKN := Lib.hid hkn
    have HHI := Lib.hid hhi
    have HL := Lib.hid hl
    clear hbx hkn hl hB ey hbs hz1 hset hnew hsz hhi k1 k2 kb hB0
    gi_wp2
    refine ⟨HKO.out.from _, ⟨by rw [HSZ.out]; omega, ?_, ?_⟩, ⟨⟨⟨.pointer (some ⟨W.heap.size, 0, none⟩), W.heap.size + 1, by rw [HSZ.out]; exact Nat.le_refl _, HBS.out, ?_⟩, ?_⟩, HBB.out⟩⟩
    · exact HSET.out _ (by omega) hS2
    · exact HSET.out _ (by omega) (by omega)
    · rw [HSN.out]
      refine ⟨W.heap.size, .pointer q, rfl, by omega, by omega, HNEW.out, ?_⟩
      exact Kn.up _ (Kn.keep _ HKN.out (fun k h1 h2 c t hc => (HSET.out k (by omega) (by have := HHI.out; omega)).trans hc)) HHI.out
    · exact (HSET.out _ (by omega) hS2).trans HL.out
  case done =>
    rintro D ys W hD rfl ⟨⟨⟨p, hi, hhi, hbx, hkn⟩, hl⟩, hB⟩ hKD
    have cS := hbx.cell
    rw [ptL_full] at hkn
    have HB := Lib.hid hB
    have HKN := Lib.hid hkn
    have HHI := Lib.hid hhi
    have HKD := Lib.hid hKD
    clear hbx hkn hl hB hKD hhi
    gi_wp2
    refine ⟨by simp, .inl ⟨_, _, rfl, run_takeDeferred HKD.out, ?_⟩⟩
    refine ⟨_, results_tmp rfl _ _ _, p, rfl, ?_, HB.out.trans (belowK_b (w := w) (Nat.le_refl _) W D _ _ (by omega) HKD.out rfl rfl)⟩
    refine Kn.up _ (Kn.down _ (Kn.keep _ HKN.out (fun k h1 h2 c t hc => ((grownBy_putObj' W D _).block k (by have := HHI.out; omega) (fun e => ?_)).trans hc)) (by omega)) (Nat.le_trans HHI.out (grownBy_putObj' W D _).size)
    cases e
    rw [HKD.out] at hc
    cases hc
  case stop =>
    rintro D c pre W _ _ h _
    exact h.elim

end Go.Proofs.Ytmfdflkpbejpoaa
