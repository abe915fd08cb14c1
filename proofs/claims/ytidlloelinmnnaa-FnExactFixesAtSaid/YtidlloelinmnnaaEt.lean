/- FixesAt: the program. -/
import Derived.Test.YtidlloelinmnnaaEo
import Derived.Test.YtidlloelinmnnaaEi
import Derived.Test.YtidlloelinmnnaaImplG
import Derived.Maps.OwnIn
namespace Go.Proofs.Ytidlloelinmnnaa
open Go.RowKit Go.Shelf
set_option linter.unusedVariables false
set_option linter.unusedSimpArgs false
attribute [local go_sem] Oper.semAt_some

theorem kx_app2 {W w1 : World} {n0 B Bm k : Nat} {t e tq : TypeId} {v v' q : Value} {xs : List Value} {tmp : Obj} (hv : Boxed W B t v) (ht : t ≠ 96) (hrow : W.ownsRow n0 e 1 v k xs) (he : e ≠ 96) (hgrow : (W.alloc tmp).grownBy w1 v.ownBlock) (hq : W.heap[Bm]? = some (.cells #[q] tq (0, 0))) (htq : tq ≠ e) (htq2 : tq ≠ t) : Kx Bm W (w1.setCell ⟨B, 0, none⟩ v') ∧ (w1.setCell ⟨B, 0, none⟩ v').heap[Bm]? = W.heap[Bm]? := by
  have hz := hgrow.size
  rw [World.size_alloc] at hz
  have hBm := lt_of_block hq
  have hown : ∀ j, some j = v.ownBlock → ∃ c, W.heap[j]? = some (.cells c e (0, 0)) := fun j hj => by
    rcases hrow.2 with ⟨rfl, _⟩ | ⟨g, cap, cur, rfl, hb, hh, _⟩
    · simp [Value.ownBlock] at hj
    · obtain rfl : j = g := by simpa [Value.ownBlock] using hj
      exact ⟨_, hh⟩
  have hkeep : ∀ j, j < W.heap.size → some j ≠ v.ownBlock → j ≠ B → (w1.setCell ⟨B, 0, none⟩ v').heap[j]? = W.heap[j]? := fun j hj hne hB =>
    (Below.heap_setCell w1 ⟨B, 0, none⟩ v' j (by simpa using hB)).trans ((hgrow.block j (by rw [World.size_alloc]; omega) hne).trans (Below.heap_alloc W tmp j hj))
  have hBB : Bm ≠ B := fun e' => by
    subst e'
    have hh : W.heap[Bm]? = some (.cells #[v] t (0, 0)) := hv
    rw [hq] at hh
    simp only [Option.some.injEq, Obj.cells.injEq] at hh
    exact htq2 hh.2.1
  have hBo : some Bm ≠ v.ownBlock := fun e' => by
    obtain ⟨c, hc⟩ := hown _ e'
    rw [hq] at hc
    simp only [Option.some.injEq, Obj.cells.injEq] at hc
    exact htq hc.2.1
  have hm := hkeep Bm hBm hBo hBB
  refine ⟨⟨by simp [World.setCell]; omega, hm, fun j u hj => (hkeep j (lt_of_block hj) (fun e' => ?_) (fun e' => ?_)).trans hj⟩, hm⟩
  · obtain ⟨c, hc⟩ := hown _ e'
    rw [hj] at hc
    simp only [Option.some.injEq, Obj.cells.injEq] at hc
    exact absurd hc.2.1.symm he
  · subst e'
    have hh : W.heap[j]? = some (.cells #[v] t (0, 0)) := hv
    rw [hj] at hh
    simp only [Option.some.injEq, Obj.cells.injEq] at hh
    exact ht hh.2.1.symm

set_option maxRecDepth 100000 in
set_option maxHeartbeats 16000000 in
theorem implFixesAt_any (v u : Value) (lo hi n : Nat) (g : G) (Z : Nat → Int) (r c : Int) (w : World) (hv : RdM lo hi w v g) (hu : RdT lo hi w u n Z) (hh : hi ≤ w.heap.size) (hn : n ≤ 1048576) :
    Calls Try.prog 20 #[v, u, .int .i64 r, .int .i64 c] w (NbPost (ahB g n Z r c) (ahL g n Z r c) w) := by
  obtain ⟨Wa, hWa⟩ : ∃ Wa, (w.alloc (.cells #[.int .i64 r] 3)).alloc (.cells #[.int .i64 c] 3) = Wa := ⟨_, rfl⟩
  have hbA : Below w.heap.size w Wa := by rw [← hWa]; exact ((Below.refl _ _).alloc (Nat.le_refl _) _).alloc (by simp) _
  have sA : Wa.heap.size = w.heap.size + 2 := by rw [← hWa]; simp
  have rA : Wa.heap[w.heap.size]? = some (.cells #[.int .i64 r] 3 (0, 0)) := by rw [← hWa]; exact (Below.heap_alloc _ _ _ (by simp)).trans (heap_alloc_new w _)
  have cA : Wa.heap[w.heap.size + 1]? = some (.cells #[.int .i64 c] 3 (0, 0)) := by rw [← hWa]; exact heap_alloc2_new w _ _
  have HE := Lib.hid (editionOf_any v u lo hi n g Z Wa (hv.same (SameIn.below hbA hh)) (hu.same (SameIn.below hbA hh)) (by omega) hn)
  have HBA := Lib.hid hbA
  obtain ⟨i0, hi0, hz0, hz1, hz2⟩ := info_parts Try.infoI
  clear hv hu hbA
  by_cases hok : FxOk g n Z
  case neg =>
    have HX := Lib.hid (ahB_no (g := g) (n := n) (Z := Z) (r := r) (c := c) (fun h => hok h.1))
    have HY := Lib.hid (ahL_no (g := g) (n := n) (Z := Z) (r := r) (c := c) (fun h => hok h.1))
    have HEN := Lib.hid (HE.out.mono (fun e w' h => show e = .returned (.tuple #[.agg #[.int .i64 0, .int .i64 0, .slice none 0 0, .int .i64 0, .int .i64 0, .slice none 0 0, .nilIface], .bool false]) ∧ Below Wa.heap.size Wa w' from by
      rcases h.2 with ⟨hk, _⟩ | ⟨_, he⟩
      · exact absurd hk hok
      · exact ⟨he, h.1⟩))
    clear HE rA cA hok
    go_enter Try.func20, Try.ntmps20
    go_wp2_with fail
    try rw [hWa]
    refine HEN.out.mono ?_
    rintro e w2 ⟨rfl, hb2⟩
    have hs2 := hb2.size
    have HB3 := Lib.hid ((HBA.out.trans (hb2.mono (by omega))).alloc (by omega) (.cells #[.int .i64 0, .int .i64 0, .slice none 0 0, .int .i64 0, .int .i64 0, .slice none 0 0, .nilIface] 72))
    clear hb2
    go_wp2
    go_ret2
    exact NbPost.mk' HX.out HY.out (World.ownsRow_nil _ _ _ _) HB3.out
  have HOK := Lib.hid hok
  refine (callsIn_wide (n := 5)).1 ?_
  refine callsIn_of_wp_marks Try.func20 rfl trivial ?_ rfl
  simp only [Try.ntmps20, List.size_toArray, List.length_cons, List.length_nil, Nat.reduceAdd, Nat.reduceSub, Array.replicate_succ, Array.replicate_zero, List.push_toArray, List.append_toArray, List.nil_append, List.cons_append]
  gi_wp2_with fail
  try rw [hWa]
  refine ⟨trivial, ?_⟩
  refine (callsIn_wide.2 HE.out).mono ?_
  rintro e w2 ⟨hb2, hcase⟩
  have hs2 := hb2.size
  rcases hcase with ⟨hok, n0, g0, c0, n1, g1, c1, rfl, hr0, hr1⟩ | ⟨hno, rfl⟩
  case inr => exact absurd HOK.out hno
  clear HOK
  obtain ⟨L, eL⟩ : ∃ L, fxF Z 0 n = L := ⟨_, rfl⟩
  have hn6 := hok.2.1
  have hlen : L.length = n := by rw [← eL, fxF_len]
  obtain ⟨vt, eE, eV⟩ := ed_iface g n0 g0 c0 n1 g1 c1 L
  rw [eL, eE]
  obtain ⟨W3, hW3⟩ : ∃ W3, w2.alloc (.cells #[.int .i64 g.n, .int .i64 (g.len 0), .slice (some ⟨g0, 0, none⟩) n0 c0, .int .i64 g.n, .int .i64 (g.len 0), .slice (some ⟨g1, 0, none⟩) n1 c1, .iface vt (dnR L)] 72) = W3 := ⟨_, rfl⟩
  have hb3 : Below w2.heap.size w2 W3 := by rw [← hW3]; exact (Below.refl _ _).alloc (Nat.le_refl _) _
  have s3 : W3.heap.size = w2.heap.size + 1 := by rw [← hW3]; simp
  have h3e : W3.heap[w2.heap.size]? = some (.cells #[.int .i64 g.n, .int .i64 (g.len 0), .slice (some ⟨g0, 0, none⟩) n0 c0, .int .i64 g.n, .int .i64 (g.len 0), .slice (some ⟨g1, 0, none⟩) n1 c1, .iface vt (dnR L)] 72 (0, 0)) := by rw [← hW3]; exact heap_alloc_new w2 _
  have h3r : W3.heap[w.heap.size]? = some (.cells #[.int .i64 r] 3 (0, 0)) := (hb3.block _ (by omega)).trans ((hb2.block _ (by omega)).trans rA)
  have h3c : W3.heap[w.heap.size + 1]? = some (.cells #[.int .i64 c] 3 (0, 0)) := (hb3.block _ (by omega)).trans ((hb2.block _ (by omega)).trans cA)
  have HB3 := Lib.hid ((HBA.out.trans (hb2.mono (by omega))).trans (hb3.mono (by omega)))
  have HR3 := Lib.hid (hr0.keep hb3 (Nat.le_refl _))
  have H3E := Lib.hid h3e
  have H3R := Lib.hid h3r
  have H3C := Lib.hid h3c
  obtain ⟨⟨m0, m1, m2, m3, m4, m5, m6⟩, _⟩ := cells7 h3e
  have d0 := one_cellF h3r
  have d1 := one_cellF h3c
  by_cases hcl : g.Cell r c
  case neg =>
    have HX := Lib.hid (ahB_no (g := g) (n := n) (Z := Z) (r := r) (c := c) (fun h => hcl h.2))
    have HY := Lib.hid (ahL_no (g := g) (n := n) (Z := Z) (r := r) (c := c) (fun h => hcl h.2))
    have HH := Lib.hid (has_no g.n (g.len 0) n0 g0 c0 r c W3 (fun h => hcl ⟨hok.1, ⟨h.1, by omega⟩, h.2.2.1, by omega⟩))
    clear hb2 hb3 rA cA hcl hok hr0 hr1 h3e h3r h3c eE eV eL
    gi_wp2_with fail
    try rw [hW3]
    refine ⟨trivial, ?_⟩
    refine (callsIn_wide.2 HH.out).mono ?_
    rintro e w4 ⟨rfl, hb4⟩
    have HB4 := Lib.hid (HB3.out.trans (hb4.mono (by omega)))
    clear hb4
    gi_wp2
    refine ⟨_, results_tmp2 rfl _ _ _, ?_⟩
    exact NbPost.mk' HX.out HY.out (World.ownsRow_nil _ _ _ _) HB4.out
  have HX := Lib.hid (ahB_yes (g := g) (n := n) (Z := Z) (r := r) (c := c) ⟨hok, hcl⟩)
  have HY := Lib.hid (ahL_yes (g := g) (n := n) (Z := Z) (r := r) (c := c) ⟨hok, hcl⟩)
  rw [eL] at HY
  have hrr := hcl.2.1
  have hcc := hcl.2.2
  obtain ⟨r', er'⟩ := Int.eq_ofNat_of_zero_le hrr.1
  obtain ⟨c', ec'⟩ := Int.eq_ofNat_of_zero_le hcc.1
  have hr7 : r' < g.n := by omega
  have hc7 : c' < g.len 0 := by omega
  have hm := cell_lt (R := g.n) (C := g.len 0) rfl hr7 hc7
  have h49 := mul_le_49 hok.1.1.2 hok.1.2.1.2
  obtain ⟨z0, ez0⟩ : ∃ z, g.z r.toNat c.toNat = z := ⟨_, rfl⟩
  have hzf : g.flat (r' * g.len 0 + c') = z0 := by rw [g.flat_at r' c' hc7, ← ez0, er', ec']; rfl
  rw [ez0] at HY
  have HH := Lib.hid (has_yes g.n (g.len 0) n0 g0 c0 r c W3 hrr.1 (by omega) hcc.1 (by omega))
  have hmul : r * (g.len 0 : Int) = ((r' * g.len 0 : Nat) : Int) := by rw [er']; exact (Int.natCast_mul _ _).symm
  have HAT := Lib.hid (fun (W : World) (hb : Below W3.heap.size W3 W) => at_any g.n (g.len 0) n0 g0 c0 z0 r c (r' * g.len 0 + c') W (by rw [hmul, ec']; omega) (by rw [hmul]; omega) (by rw [hmul]; have : r' * g.len 0 ≤ r' * g.len 0 + c' := Nat.le_add_right _ _; omega) (by rw [hr0.n_eq]; exact hm) (by rw [hr0.n_eq]; omega) (by rw [← hzf]; exact (HR3.out.keep hb (Nat.le_refl _)).cell _ (by rw [hr0.n_eq]; exact hm)))
  have HEF := Lib.hid (fun W : World => eachFix_any L W)
  rw [eV] at HEF
  have HEV := Lib.hid eV
  have hE0 : 0 ≤ r ∧ 0 ≤ c := ⟨hrr.1, hcc.1⟩
  clear hb2 hb3 rA cA hcl hok hr0 hr1 h3e h3r h3c eE eL hm h49 hzf hmul ez0 er' ec' hr7 hc7 hE0
  gi_wp2_with fail
  try rw [hW3]
  refine ⟨trivial, ?_⟩
  refine (callsIn_wide.2 HH.out).mono ?_
  rintro e w4 ⟨rfl, hb4⟩
  have hs4 := hb4.size
  obtain ⟨⟨p0, p1, p2, p3, p4, p5, p6⟩, _⟩ := cells7 ((hb4.block _ (by omega)).trans H3E.out)
  have f0 := one_cellF ((hb4.block _ (by omega)).trans H3R.out)
  have f1 := one_cellF ((hb4.block _ (by omega)).trans H3C.out)
  have HB4 := Lib.hid hb4
  clear hb4 m0 m1 m2 m3 m4 m5 m6 d0 d1 HH
  gi_wp2_with fail
  refine ⟨trivial, ?_⟩
  refine (callsIn_wide.2 (HAT.out _ HB4.out)).mono ?_
  rintro e w5 ⟨rfl, hb5⟩
  have hs5 := hb5.size
  have HB5 := Lib.hid (HB4.out.trans (hb5.mono hs4))
  obtain ⟨⟨q0, q1, q2, q3, q4, q5, q6⟩, _⟩ := cells7 ((HB5.out.block _ (by omega)).trans H3E.out)
  have H5R := Lib.hid ((HB5.out.block _ (by omega)).trans H3R.out)
  have H5C := Lib.hid ((HB5.out.block _ (by omega)).trans H3C.out)
  clear hb5 p0 p1 p2 p3 p4 p5 p6 f0 f1 HAT
  obtain ⟨W0, hW0, hs0, k0, k1, k2, kb⟩ := alloc3_all w5 (.cells #[.int .i64 z0] 3) (.cells #[.slice (some ⟨w5.heap.size, 0, none⟩) 1 1] 26) (.cells #[.iface vt (dnR L)] 70)
  have hE5 : w2.heap.size < w5.heap.size := by omega
  have hck : Ck W0 (w5.heap.size + 2) L := by unfold Ck; rw [HEV.out]; exact k2
  gi_wp2_with (refine ⟨trivial, ?_⟩; gi_at_call 71; refine (callsIn_wide.2 (HEF.out _)).mono ?_; rintro e w' ⟨rfl, rfl⟩)
  try rw [← hW0]
  refine wpIn_seqB (fx_seq 4 (by omega) (w5.heap.size + 1 + 1) L W0 hck) rfl (by omega) rfl trivial (enters_of Try.func100 (by kernel_rfl) rfl) Kx.trans (fun W l o o' hl ho hc => Kx.put W l o o' (by omega) ho hc) (fun X Y hX h => Kx.grown h (by omega))
    (fun X Y h => h.others) (Below.refl _ _) (fun _ => rfl)
    (fun pre W => (∃ x, Boxed W (w5.heap.size + 1) 26 x ∧ W.ownsRow w5.heap.size 3 1 x (z0 :: ahP r c pre).length (nsV (z0 :: ahP r c pre)) ∧ True) ∧ (∃ q, W.heap[w5.heap.size + 1 + 1]? = some (.cells #[q] 70 (0, 0))) ∧ Below w5.heap.size w5 W)
    (OwnFrom.and (Own.from (holdsRow_own w5.heap.size (w5.heap.size + 1) 26 3 1 (fun pre : List Fx => (z0 :: ahP r c pre).length) (fun pre => nsV (z0 :: ahP r c pre)) (fun _ _ => True)) _) (OwnFrom.and (fun s X Y row hs hg hrow => by
      obtain ⟨q, hs⟩ := hs
      exact ⟨q, (hg.block _ (lt_of_block hs) (fun e => by
        obtain ⟨_, o, ho, hc⟩ := hrow _ e.symm
        rw [hs] at ho; cases ho; cases hc)).trans hs⟩) (ownFrom_below (Nat.le_refl _) (by omega))))
    (fun s X Y hs hT => by
      obtain ⟨⟨xv, hv, hrow, _⟩, ⟨q, hq⟩, hB⟩ := hs
      obtain ⟨u', rfl⟩ := hT
      refine ⟨⟨xv, hv.other (by omega) u', ownsRow_setCell_other hrow (fun e => ?_) u', trivial⟩, ⟨u', by simpa using heap_setCell_same X (w5.heap.size + 1 + 1) 0 _ _ u' hq⟩, hB.setCell (p := ⟨w5.heap.size + 1 + 1, 0, none⟩) (by show w5.heap.size ≤ w5.heap.size + 1 + 1; omega) u'⟩
      rcases hrow.2 with ⟨rfl, _⟩ | ⟨gg, cap, cur, rfl, _, hgb, _⟩
      · cases e
      · have e' : gg = w5.heap.size + 1 + 1 := by simpa [Value.ownBlock] using e
        rw [e', hq] at hgb
        simp only [Option.some.injEq, Obj.cells.injEq] at hgb
        exact absurd hgb.2.1 (by decide))
    ⟨⟨_, k1, (show W0.ownsRow w5.heap.size 3 1 _ 1 (nsV [z0]) from by rw [hW0]; exact World.ownsRow.alloc (World.ownsRow.alloc (nums_one' w5 z0) _) _), trivial⟩, ⟨_, k2⟩, kb⟩
    (fun x W1 => { tmps := #[v, u, .int .i64 r, .int .i64 c, undef, undef, .pointer (some ⟨w.heap.size, 0, none⟩), .pointer (some ⟨w.heap.size + 1, 0, none⟩), .slice none 0 0, .bool false, .pointer (some ⟨w2.heap.size, 0, none⟩), .bool true, .pointer (some ⟨w5.heap.size + 1, 0, none⟩), .pointer (some ⟨W1.heap.size, 0, none⟩), .tuple #[.agg #[.int .i64 g.n, .int .i64 (g.len 0), .slice (some ⟨g0, 0, none⟩) n0 c0, .int .i64 g.n, .int .i64 (g.len 0), .slice (some ⟨g1, 0, none⟩) n1 c1, .iface vt (dnR L)], .bool true], v, u, .tuple #[.agg #[.int .i64 g.n, .int .i64 (g.len 0), .slice (some ⟨g0, 0, none⟩) n0 c0, .int .i64 g.n, .int .i64 (g.len 0), .slice (some ⟨g1, 0, none⟩) n1 c1, .iface vt (dnR L)], .bool true], .agg #[.int .i64 g.n, .int .i64 (g.len 0), .slice (some ⟨g0, 0, none⟩) n0 c0, .int .i64 g.n, .int .i64 (g.len 0), .slice (some ⟨g1, 0, none⟩) n1 c1, .iface vt (dnR L)], .bool true, .bool true, .bool false, .bool false, .pointer (some ⟨w2.heap.size, 0, none⟩), .agg #[.int .i64 g.n, .int .i64 (g.len 0), .slice (some ⟨g0, 0, none⟩) n0 c0], .int .i64 r, .int .i64 c, .bool true, .bool false, .bool false, .pointer (some ⟨w2.heap.size, 0, none⟩), .agg #[.int .i64 g.n, .int .i64 (g.len 0), .slice (some ⟨g0, 0, none⟩) n0 c0], .int .i64 r, .int .i64 c, .int .i64 z0, .slice (some ⟨w5.heap.size, 0, none⟩) 1 1, .pointer (some ⟨w2.heap.size, 6, none⟩), .iface vt (dnR L), .func (.func 100) #[] #[.pointer (some ⟨w5.heap.size + 1 + 1, 0, none⟩)], fxV x, undef, undef, undef, undef, undef, undef, undef, undef, undef, undef, undef, undef, undef, undef, undef, undef], defers := [] })
    (fun x W1 W2 => W2.heap[W1.heap.size]? = some (.cells #[.int .i64 x.r, .int .i64 x.c, .int .i64 x.o, .int .i64 x.n] 63 (0, 0)))
    (fun x W1 W2 l o o' ho hc h => (World.putObj_heap_other (fun e => by subst e; rw [h] at ho; cases ho; cases hc)).trans h) ?assign ?body ?done
  case assign =>
    intro l x W K hK
    simp only [fxV]
    gi_wp2
    exact hK _ (World.grownBy_alloc W _ none) (heap_alloc_new W _)
  case body =>
    rintro l pre x W1 W ⟨⟨xv, hv, hrow, _⟩, ⟨q, hq⟩, hB⟩ hA hs1 hs2 hpx
    have hpl := hpx.length_le
    simp only [List.length_append, List.length_cons, List.length_nil] at hpl
    have hal := ahP_len r c pre
    obtain ⟨q0', q1', q2', q3'⟩ := cellsLb hA
    have e0 := one_cellF ((hB.block _ (by omega)).trans H5R.out)
    have e1 := one_cellF ((hB.block _ (by omega)).trans H5C.out)
    have HB := Lib.hid hB
    have HV := Lib.hid hv
    have hc := hv.cell
    have hlen9 : (z0 :: ahP r c pre).length ≤ 100 := by simp only [List.length_cons]; omega
    have HQ := Lib.hid hq
    have HYES := Lib.hid (fun (h1 : x.r = r) (h2 : x.c = c) => (by rw [ahP_yes h1 h2]; rfl : z0 :: ahP r c (pre ++ [x]) = (z0 :: ahP r c pre) ++ [x.n]))
    have HNO := Lib.hid (fun (h : ¬ (x.r = r ∧ x.c = c)) => (by rw [ahP_no h] : z0 :: ahP r c (pre ++ [x]) = z0 :: ahP r c pre))
    have HRW := Lib.hid hrow
    obtain ⟨LL, eLL⟩ : ∃ LL, z0 :: ahP r c pre = LL := ⟨_, rfl⟩
    rw [eLL] at HYES HNO HRW hlen9
    obtain ⟨A, eA⟩ : ∃ A, x.n = A := ⟨_, rfl⟩
    obtain ⟨O, eO⟩ : ∃ O, x.o = O := ⟨_, rfl⟩
    obtain ⟨R, eR⟩ : ∃ R, x.r = R := ⟨_, rfl⟩
    obtain ⟨C, eC⟩ : ∃ C, x.c = C := ⟨_, rfl⟩
    simp only [eA, eR, eC] at HYES HNO
    simp only [fxV, eA, eO, eR, eC] at q0' q1' q2' q3' ⊢
    have hszW := hB.size
    clear hv hrow hq hB hA eA eO eR eC eLL hpx hal
    by_cases h1 : R = r
    case neg =>
      have h1' : (R == r) = false := by simpa using h1
      have HN := Lib.hid (HNO.out (fun h => h1 h.1))
      clear h1 HYES HNO
      gi_wp2
      exact ⟨KeepsOthers.refl _, ⟨Nat.le_refl _, rfl, fun _ _ h => h⟩, ⟨xv, HV.out, by rw [HN.out]; exact HRW.out, trivial⟩, ⟨q, HQ.out⟩, HB.out⟩
    have h1' : (R == r) = true := by simpa using h1
    by_cases h2 : C = c
    case neg =>
      have h2' : (C == c) = false := by simpa using h2
      have HN := Lib.hid (HNO.out (fun h => h2 h.2))
      clear h1 h2 HYES HNO
      gi_wp2
      exact ⟨KeepsOthers.refl _, ⟨Nat.le_refl _, rfl, fun _ _ h => h⟩, ⟨xv, HV.out, by rw [HN.out]; exact HRW.out, trivial⟩, ⟨q, HQ.out⟩, HB.out⟩
    have h2' : (C == c) = true := by simpa using h2
    have HN := Lib.hid (HYES.out h1 h2)
    clear h1 h2 HYES HNO
    gi_wp2_with (gi_at_builtin; refine wpListIn_append_own _ rfl _ _ 26 rfl w5.heap.size 3 i0 (.int .i64 0) 1 8 Try.underlying26 hi0 hz0 hz1 hz2 rfl (by decide) _ LL.length (nsV LL) rfl (HRW.out.alloc _) ⟨W.heap.size, 0, none⟩ 1 1 [.int .i64 A] rfl rfl (World.news_of_block (cs := #[.int .i64 A]) (t := 3) (fr := (0, 0)) (heap_alloc_new _ _)) (by simp [Value.oneCell']) (by unfold maxLen; omega) (by omega) (by simp; omega) ?_; intro v' w1 hown' hgrow _; obtain ⟨g', cap', rfl⟩ := ownsRow_succ hown'; have HKA := Lib.hid (fun u => kx_app2 (v' := u) HV.out (by decide) HRW.out (by decide) hgrow HQ.out (by decide) (by decide)); obtain ⟨hv1, hv2, hr2, hk2, hb2⟩ := HV.out.appended (by decide) HRW.out (by omega) (by omega) hown' hgrow; have HV2 := Lib.hid hv2; have HR2 := Lib.hid hr2; have HK2 := Lib.hid hk2; have HB2 := Lib.hid hb2; have hc1 := hv1.cell; have hf1 := hv1.frozen; clear hown' hgrow hv2 hr2 hk2 hb2 hv1)
    refine ⟨HK2.out, (HKA.out _).1, ⟨_, HV2.out, ?_, trivial⟩, ⟨q, (HKA.out _).2.trans HQ.out⟩, HB.out.trans (HB2.out.mono (by omega))⟩
    rw [HN.out]
    have := HR2.out
    simpa [nsV] using this
  case done =>
    rintro D ys W hD rfl ⟨⟨xv, hv, hrow, _⟩, ⟨q, hq⟩, hB⟩ hK
    have hc := hv.cell
    have HR := Lib.hid hrow
    have HB := Lib.hid hB
    have HK := Lib.hid hK
    clear hv hrow hB hK hq
    gi_wp2
    refine ⟨by simp, .inl ⟨_, _, rfl, run_takeDeferred HK.out, ?_⟩⟩
    refine ⟨_, results_tmp2 rfl _ _ _, ?_⟩
    exact NbPost.mk' HX.out HY.out (ownsRow_base (ownsRow_putObj HR.out _ HK.out rfl) (by omega)) ((HB3.out.trans (HB5.out.mono (by omega))).trans ((HB.out.trans (belowK_b (w := w5) (Nat.le_refl _) W D _ _ (by omega) HK.out rfl rfl)).mono (by omega)))

end Go.Proofs.Ytidlloelinmnnaa
