/- A list as a chain; a correction done on a relief. -/
import Derived.Test.YtidlloelinmnnaaFe
import Derived.Test.YtidlloelinmnnaaImplG
namespace Go.Proofs.Ytidlloelinmnnaa
open Go.RowKit Go.Shelf
set_option linter.unusedVariables false
attribute [local go_sem] Oper.semAt_some

set_option maxRecDepth 100000 in
set_option maxHeartbeats 4000000 in
theorem correctionsOf_any (v : Value) (lo hi n : Nat) (Z : Nat → Int) (w : World) (hu : RdT lo hi w v n Z) (hh : hi ≤ w.heap.size) (hn : n ≤ 1000) :
    Calls Try.prog 99 #[v] w (fun e w' => e = .returned (ckV (fxF Z 0 n)) ∧ Below w.heap.size w w') := by
  obtain ⟨ao, cap, b, off, rfl, h2, h3, h4, h5, h6⟩ := hu
  obtain ⟨b', hb1, hb2, h5', h6'⟩ : ∃ b', b' < w.heap.size + 2 ∧ b' ≠ w.heap.size ∧ (0 < n → ao = some ⟨b', off, none⟩ ∧ b' < w.heap.size) ∧ ∀ j, j < n * 4 → w.cell? ⟨b', off + j, none⟩ = some (.int .i64 (Z j)) := by
    by_cases h0 : 0 < n
    · have := h5 h0
      exact ⟨b, by omega, by omega, fun _ => ⟨this.1, by omega⟩, h6⟩
    · exact ⟨w.heap.size + 1, by omega, by omega, fun h => absurd h h0, fun j hj => by omega⟩
  have H5 := Lib.hid h5'
  have H6 := Lib.hid h6'
  clear h4 h5 h6 h5' h6'
  refine (callsIn_wide (n := 5)).1 ?_
  refine callsIn_of_wp_marks Try.func99 rfl trivial ?_ rfl
  simp only [Try.ntmps99, List.size_toArray, List.length_cons, List.length_nil, Nat.reduceAdd, Nat.reduceSub, Array.replicate_succ, Array.replicate_zero, List.push_toArray, List.append_toArray, List.nil_append, List.cons_append]
  gi_wp2_with (refine ⟨trivial, ?_⟩; gi_at_call 114; refine (callsIn_wide.2 (bkf_any _ _ _ _)).mono ?_; rintro e w' ⟨rfl, rfl⟩)
  obtain ⟨k1, k2, ksz, kb⟩ := bk_two w (.cells #[.iface 93 (.agg #[])] 70) (.cells #[.slice ao n cap] 30)
  generalize hW0 : (w.alloc (.cells #[.iface 93 (.agg #[])] 70)).alloc (.cells #[.slice ao n cap] 30) = W0 at k1 k2 ksz kb ⊢
  clear hW0
  refine wpIn_seqB (bkf_seq 4 (by omega) (w.heap.size + 1) b' off n cap ao Z W0 (by omega) hn h2 (by simp [World.cell?, k2]) (fun h => ⟨(H5.out h).1, by omega⟩) (fun i hi => (kb.cell (p := ⟨b', off + i, none⟩) (by have := (H5.out (by omega)).2; show b' < _; omega)).trans (H6.out i hi)))
    rfl (by omega) rfl trivial (enters_of Try.func130 (by kernel_rfl) rfl) Kc.trans (fun W l o o' hl ho hc => ⟨by rw [World.putObj_size]; exact Nat.le_refl _, World.putObj_heap_other (by omega), World.putObj_heap_other (by omega)⟩) (fun X Y hX h => ⟨h.size, h.block _ (by omega) (by simp), h.block _ (by omega) (by simp)⟩)
    (fun X Y h => h.elim) (Below.refl _ _) (fun _ => rfl)
    (fun pre W => (Ck W w.heap.size (chP Z pre) ∧ W.heap[w.heap.size + 1]? = some (.cells #[.slice ao n cap] 30 (0, 0))) ∧ Below w.heap.size w W)
    (OwnFrom.and (OwnFrom.and (fun s X Y row hs hg hrow => (hg.block _ (lt_of_block hs) (fun e => by have := (hrow _ e.symm).1; omega)).trans hs) (own_block (by omega))) (ownFrom_below (Nat.le_refl _) (by omega))) (fun s X Y hs hT => hT.elim) ⟨⟨k1, k2⟩, kb⟩
    (fun x W1 => { tmps := #[.slice ao n cap, undef, .nilIface, .pointer (some ⟨w.heap.size, 0, none⟩), undef, .pointer (some ⟨W1.heap.size, 0, none⟩), .agg #[], .iface 93 (.agg #[]), .slice ao n cap, .func (.func 130) #[] #[.pointer (some ⟨w.heap.size + 1, 0, none⟩)], .int .i64 x, fxV (fxAt Z x), undef, undef, undef, undef, undef], defers := [] })
    (fun x W1 W2 => W2.heap[W1.heap.size]? = some (.cells #[.int .i64 (fxAt Z x).r, .int .i64 (fxAt Z x).c, .int .i64 (fxAt Z x).o, .int .i64 (fxAt Z x).n] 63 (0, 0)))
    (fun x W1 W2 l o o' ho hc h => (World.putObj_heap_other (fun e => by subst e; rw [h] at ho; cases ho; cases hc)).trans h) ?assign ?body ?done
  case assign =>
    intro l x W K hK
    simp only [fxV]
    gi_wp2
    exact hK _ (World.grownBy_alloc W _ none) (heap_alloc_new W _)
  case body =>
    rintro l pre x W1 W ⟨⟨hck, hl⟩, hB⟩ hA hs0 hs1 hpl
    obtain ⟨q0, q1, q2, q3⟩ := cellsLb hA
    obtain ⟨vt, vu, eV⟩ := ckV_iface (chP Z pre)
    have HS := Lib.hid hck
    have d0 : W.frozen? ⟨w.heap.size, 0, none⟩ = false := by simp [World.frozen?, show W.heap[w.heap.size]? = _ from hck]
    have d1 : W.cell? ⟨w.heap.size, 0, none⟩ = some (.iface vt vu) := by rw [← eV]; exact one_cellF hck
    have HL := Lib.hid hl
    have HB := Lib.hid hB
    have HN := Lib.hid (show ckV (chP Z (pre ++ [x])) = .iface 96 (.agg #[.int .i64 (fxAt Z x).r, .int .i64 (fxAt Z x).c, .int .i64 (fxAt Z x).o, .int .i64 (fxAt Z x).n, .iface vt vu]) by rw [chP_snoc, ← eV]; rfl)
    have hlt := lt_of_block hck
    have hlt2 := lt_of_block hl
    obtain ⟨r0, er0⟩ : ∃ y, (fxAt Z x).r = y := ⟨_, rfl⟩
    obtain ⟨c0, ec0⟩ : ∃ y, (fxAt Z x).c = y := ⟨_, rfl⟩
    obtain ⟨o0, eo0⟩ : ∃ y, (fxAt Z x).o = y := ⟨_, rfl⟩
    obtain ⟨n0, en0⟩ : ∃ y, (fxAt Z x).n = y := ⟨_, rfl⟩
    rw [er0, ec0, eo0, en0] at HN
    simp only [fxV, er0, ec0, eo0, en0] at q0 q1 q2 q3 ⊢
    clear hA hck hl hB eV er0 ec0 eo0 en0
    gi_wp2
    have HS2 := HS.out.set (chP Z (pre ++ [x]))
    rw [HN.out] at HS2
    refine ⟨KeepsOthers.setCell _ _ _, ⟨by simp [World.setCell], Below.heap_setCell _ _ _ _ (by simp), Below.heap_setCell _ _ _ _ (by simpa using hb2)⟩, ⟨?_, (Below.heap_setCell _ _ _ _ (by simp)).trans HL.out⟩, HB.out.setCell (p := ⟨w.heap.size, 0, none⟩) (Nat.le_refl _) _⟩
    unfold Ck at HS2 ⊢
    rw [HN.out] at HS2 ⊢
    exact HS2
  case done =>
    rintro D ys W hD rfl ⟨⟨hck, hl⟩, hB⟩ hK
    rw [chP_full] at hck
    obtain ⟨vt, vu, eV⟩ := ckV_iface (fxF Z 0 n)
    have d1 : W.cell? ⟨w.heap.size, 0, none⟩ = some (.iface vt vu) := by rw [← eV]; exact one_cellF hck
    have HB := Lib.hid hB
    have HK := Lib.hid hK
    have EV := Lib.hid eV
    clear hck hl hB hK eV
    gi_wp2
    refine ⟨by simp, .inl ⟨_, _, rfl, run_takeDeferred HK.out, ?_⟩⟩
    exact ⟨_, results_tmp rfl _ _ _, by rw [EV.out]; rfl, HB.out.trans (belowK_b (w := w) (Nat.le_refl _) W D _ _ (by omega) HK.out rfl rfl)⟩

end Go.Proofs.Ytidlloelinmnnaa
