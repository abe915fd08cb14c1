/- The basins of the program. -/
import Derived.Test.YtplfphpnpjjinaaBasS
import Derived.Test.YtplfphpnpjjinaaOwnRow
import Derived.Test.YtplfphpnpjjinaaM3
namespace Go.Proofs.Ytplfphpnpjjinaa
open Go.RowKit Go.Shelf
set_option linter.unusedVariables false
attribute [local go_sem] Oper.semAt_some

theorem three_allocs (w : World) (o1 o2 o3 : Obj) : let W := ((w.alloc o1).alloc o2).alloc o3
    W.heap[w.heap.size]? = some o1 ∧ W.heap[w.heap.size + 1]? = some o2 ∧ W.heap[w.heap.size + 1 + 1]? = some o3 ∧ W.heap.size = w.heap.size + 3 ∧ Below w.heap.size w W := by
  intro W
  have e1 : (w.alloc o1).heap.size = w.heap.size + 1 := by simp
  have e2 : ((w.alloc o1).alloc o2).heap.size = w.heap.size + 1 + 1 := by simp
  have b2 := fun k hk => Below.heap_alloc (w.alloc o1) o2 k hk
  have b3 := fun k hk => Below.heap_alloc ((w.alloc o1).alloc o2) o3 k hk
  refine ⟨?_, ?_, ?_, by simp [W], ((Below.refl _ _).alloc (Nat.le_refl _) _).alloc (by simp) _ |>.alloc (by simp; omega) _⟩
  · exact ((b3 _ (by omega)).trans (b2 _ (by omega))).trans (heap_alloc_new w o1)
  · have := heap_alloc_new (w.alloc o1) o2
    rw [e1] at this
    exact (b3 _ (by omega)).trans this
  · have := heap_alloc_new ((w.alloc o1).alloc o2) o3
    rw [e2] at this
    exact this

theorem keep_block {β : Type} {B b : Nat} {o : Obj} (hb : b < B) : OwnFrom B (fun (_ : β) W => W.heap[b]? = some o) := fun s X Y row hs hg hrow =>
  (hg.block b (Array.getElem?_eq_some_iff.1 hs).1 (fun e => by have := (hrow b e.symm).1; omega)).trans hs

theorem lists_row {B b : Nat} {W : World} {M : Nat} {l : List (Ix M)} {f : Nat → Value} {n : Nat} (h : W.rowIs b 3 n f) (hB : B ≤ b) (hn : l.length = n) (hn2 : n ≤ 1000) (hf : ∀ j (hj : j < l.length), f j = .int .i64 (l[j].1 : Int)) : Lists B W (.slice (some ⟨b, 0, none⟩) n n) l := by
  obtain ⟨c, h1, h2, h3⟩ := h
  unfold Lists
  refine ⟨by simp [ixV], Or.inr ⟨b, n, c, by rw [hn], hB, h1, by omega, by unfold maxLen; omega, by omega, ?_⟩⟩
  apply List.ext_getElem?
  intro j
  rw [Nat.mul_one]
  by_cases hj : j < l.length
  · rw [List.getElem?_take_of_lt hj, Array.getElem?_toList, h3 j (by omega), hf j hj]
    simp [ixV, hj]
  · rw [List.getElem?_eq_none (by rw [List.length_take]; omega), List.getElem?_eq_none (by simp [ixV]; omega)]

theorem bsL_get {R C : Nat} {Z : Nat → Int} : ∀ (k j : Nat) (hj : j < (bsL R C Z k).length), k ≤ R * C → ((bsL R C Z k)[j].1 : Int) = ezV R C Z j
  | 0, j, hj, _ => by simp [bsL] at hj
  | k + 1, j, hj, hk => by
    have hl := bsL_len R C Z k (by omega)
    have hl1 := bsL_len R C Z (k + 1) hk
    have e : bsL R C Z (k + 1) = bsL R C Z k ++ [endI R C Z ⟨k, by omega⟩] := bsL_succ (Z := Z) ⟨k, by omega⟩
    by_cases h : j < k
    · have h2 : j < (bsL R C Z k).length := by omega
      have := bsL_get k j h2 (by omega)
      rw [← this]
      congr 2
      simp only [e]
      rw [List.getElem_append_left h2]
    · have ej : j = k := by omega
      subst ej
      rw [show ezV R C Z j = ((endI R C Z ⟨j, by omega⟩).1 : Int) from ezV_at (Z := Z) ⟨j, by omega⟩]
      congr 2
      simp only [e]
      rw [List.getElem_append_right (by omega)]
      simp

set_option maxRecDepth 100000 in
set_option maxHeartbeats 8000000 in
theorem basins_any (R C gg cap cnt : Nat) (hR : R ≤ 7) (hC : C ≤ 7) (Z : Nat → Int) (hZ : ∀ x, x < R * C → 0 ≤ Z x ∧ Z x ≤ 99) (w : World) (h : Rv w R C cnt gg cap Z) :
    Calls Try.prog 65 #[.agg #[.int .i64 R, .int .i64 C, .slice (some ⟨gg, 0, none⟩) cnt cap]] w (fun e w' => ∃ b, e = .returned (.slice (some ⟨b, 0, none⟩) cnt cnt) ∧ Lists w.heap.size w' (.slice (some ⟨b, 0, none⟩) cnt cnt) (bsL R C Z (R * C)) ∧ Below w.heap.size w w') := by
  have H := Lib.hid h
  have HZ := Lib.hid hZ
  have hcn := h.n_eq
  have h49 := mul_le_49 hR hC
  have hcn49 : cnt ≤ 49 := by omega
  have hgl : gg < w.heap.size := h.lt
  have hle : cnt ≤ cap := h.le
  have HCN := Lib.hid hcn
  clear h hZ hcn
  have hmk := run_make_row' (P := Try.prog) 33 3 (.int .i64 0) 8 Try.underlying33 Try.infoI rfl .i64 .i64 cnt (by omega) (by omega)
  refine (callsIn_wide (n := 5)).1 ?_
  refine callsIn_of_wp_marks Try.func65 rfl trivial ?_ rfl
  simp only [Try.ntmps65, List.size_toArray, List.length_cons, List.length_nil, Nat.reduceAdd, Nat.reduceSub, Array.replicate_succ, Array.replicate_zero, List.push_toArray, List.append_toArray, List.nil_append, List.cons_append]
  gi_wp2
  have e1 : (w.alloc (.cells #[.int .i64 R, .int .i64 C, .slice (some ⟨gg, 0, none⟩) cnt cap] 52)).heap.size = w.heap.size + 1 := by simp
  have e2 : ((w.alloc (.cells #[.int .i64 R, .int .i64 C, .slice (some ⟨gg, 0, none⟩) cnt cap] 52)).alloc (.cells (madeCells #[.int .i64 0] cnt) 3)).heap.size = w.heap.size + 1 + 1 := by simp
  have k1 : (((w.alloc (.cells #[.int .i64 R, .int .i64 C, .slice (some ⟨gg, 0, none⟩) cnt cap] 52)).alloc (.cells (madeCells #[.int .i64 0] cnt) 3)).alloc (.cells #[.slice (some ⟨w.heap.size + 1, 0, none⟩) cnt cnt] 33)).heap[w.heap.size]? = some (.cells #[.int .i64 R, .int .i64 C, .slice (some ⟨gg, 0, none⟩) cnt cap] 52 (0, 0)) :=
    (Below.heap_alloc _ _ _ (by omega)).trans ((Below.heap_alloc _ _ _ (by omega)).trans (heap_alloc_new w _))
  have k2 := ((World.rowIs_made (w.alloc (.cells #[.int .i64 R, .int .i64 C, .slice (some ⟨gg, 0, none⟩) cnt cap] 52)) (.int .i64 0) cnt 3).alloc (.cells #[.slice (some ⟨w.heap.size + 1, 0, none⟩) cnt cnt] 33)).congr (g := bzF R C Z 0 []) (fun j _ => (bzF_start j).symm)
  have k3 : Boxed (((w.alloc (.cells #[.int .i64 R, .int .i64 C, .slice (some ⟨gg, 0, none⟩) cnt cap] 52)).alloc (.cells (madeCells #[.int .i64 0] cnt) 3)).alloc (.cells #[.slice (some ⟨w.heap.size + 1, 0, none⟩) cnt cnt] 33)) (w.heap.size + 1 + 1) 33 (.slice (some ⟨w.heap.size + 1, 0, none⟩) cnt cnt) := by
    have := heap_alloc_new ((w.alloc (.cells #[.int .i64 R, .int .i64 C, .slice (some ⟨gg, 0, none⟩) cnt cap] 52)).alloc (.cells (madeCells #[.int .i64 0] cnt) 3)) (.cells #[.slice (some ⟨w.heap.size + 1, 0, none⟩) cnt cnt] 33)
    rw [e2] at this; exact this
  rw [e1] at k2
  have kb : Below w.heap.size w (((w.alloc (.cells #[.int .i64 R, .int .i64 C, .slice (some ⟨gg, 0, none⟩) cnt cap] 52)).alloc (.cells (madeCells #[.int .i64 0] cnt) 3)).alloc (.cells #[.slice (some ⟨w.heap.size + 1, 0, none⟩) cnt cnt] 33)) := (((Below.refl _ _).alloc (Nat.le_refl _) _).alloc (by simp) _).alloc (by simp; omega) _
  generalize hW0 : (((w.alloc (.cells #[.int .i64 R, .int .i64 C, .slice (some ⟨gg, 0, none⟩) cnt cap] 52)).alloc (.cells (madeCells #[.int .i64 0] cnt) 3)).alloc (.cells #[.slice (some ⟨w.heap.size + 1, 0, none⟩) cnt cnt] 33)) = W0 at k1 k2 k3 kb ⊢
  clear hW0 e1 e2 hmk
  refine wpIn_loop_k (fun a W => ∃ (k : Nat) (ds : List Deferred) (u4 u13 u14 u15 u16 u17 u23 : Value), a = { tmps := #[.agg #[.int .i64 R, .int .i64 C, .slice (some ⟨gg, 0, none⟩) cnt cap], .pointer (some ⟨w.heap.size, 0, none⟩), .slice none 0 0, .pointer (some ⟨w.heap.size + 1 + 1, 0, none⟩), u4, undef,
      .pointer (some ⟨w.heap.size, 2, none⟩), .slice (some ⟨gg, 0, none⟩) cnt cap, .int .i64 cnt, .slice (some ⟨w.heap.size + 1, 0, none⟩) cnt cnt, .slice (some ⟨w.heap.size + 1, 0, none⟩) cnt cnt, .int .i64 cnt, .int .i64 k, u13, u14, u15, u16, u17, undef, undef, undef, undef, undef, u23, undef], defers := ds } ∧
      k ≤ cnt ∧ W.rowIs (w.heap.size + 1) 3 cnt (bzF R C Z k []) ∧ Boxed W (w.heap.size + 1 + 1) 33 (.slice (some ⟨w.heap.size + 1, 0, none⟩) cnt cnt) ∧ W.heap[w.heap.size]? = some (.cells #[.int .i64 R, .int .i64 C, .slice (some ⟨gg, 0, none⟩) cnt cap] 52 (0, 0)) ∧ Below w.heap.size w W ∧ Coll w.heap.size W.heap.size ds W)
    (fun a _ => cnt - (intOf (a.tmps.getD 12 undef)).toNat) ⟨0, [], _, _, _, _, _, _, _, rfl, Nat.zero_le _, k2, k3, k1, kb, Coll.nil⟩ ?_
  rintro _ wr ⟨k, ds, u4, u13, u14, u15, u16, u17, u23, rfl, hk, hrow, hbox, hm, hb, hcoll⟩ K hK
  clear k1 k2 k3 kb
  have HK := Lib.hid @hK
  have HROW := Lib.hid hrow
  have HM := Lib.hid hm
  have HB := Lib.hid hb
  have HCO := Lib.hid hcoll
  have hS : w.heap.size < wr.heap.size := (Array.getElem?_eq_some_iff.1 hm).1
  have hS2 : w.heap.size + 1 + 1 < wr.heap.size := hbox.lt
  by_cases hlt : k < cnt
  · obtain ⟨i, hi'⟩ : ∃ i : Ix (R * C), i.1 = k := ⟨⟨k, by rw [← HCN.out]; exact hlt⟩, rfl⟩
    have HI := Lib.hid hi'
    obtain ⟨m0, m1, m2⟩ := three_cells hm
    have HBOX := Lib.hid hbox
    have hne : w.heap.size ≠ wr.heap.size := by omega
    clear hK hrow hbox hm hb hcoll hi'
    gi_wp2_with (refine ⟨trivial, ?_⟩; gi_at_call 78; refine (callsIn_wide.2 (run_any R C gg cnt cap k _)).mono ?_; rintro e w' ⟨rfl, rfl⟩)
    obtain ⟨n1, n2, n3, nsz, nb⟩ := three_allocs wr (.cells #[.int .i64 k] 3) (.cells #[.int .i64 R, .int .i64 C, .slice (some ⟨gg, 0, none⟩) cnt cap] 52) (.cells #[.int .i64 k] 3)
    generalize hW3 : ((wr.alloc (.cells #[.int .i64 k] 3)).alloc (.cells #[.int .i64 R, .int .i64 C, .slice (some ⟨gg, 0, none⟩) cnt cap] 52)).alloc (.cells #[.int .i64 k] 3) = W3 at n1 n2 n3 nsz nb ⊢
    clear hW3 m0 m1 m2
    have N1 := Lib.hid n1
    have N2 := Lib.hid n2
    have N3 := Lib.hid n3
    have NS := Lib.hid nsz
    have NB := Lib.hid nb
    clear n1 n2 n3 nb
    refine wpIn_rangeFunc_ownF rfl (by omega) (gf := 102) (lb := #[.pointer (some ⟨wr.heap.size + 1 + 1, 0, none⟩), .pointer (some ⟨wr.heap.size + 1, 0, none⟩)]) rfl trivial (enters_of Try.func102 (by kernel_rfl) rfl)
      (run_stops 4 (by omega) (wr.heap.size + 1 + 1) (wr.heap.size + 1) R C gg cap cnt hR hC Z HZ.out i W3 (by omega) (by omega) (by rw [HI.out]; exact one_cell N3.out) (three_cells N2.out) ((H.out.keep HB.out (Nat.le_refl _)).keep NB.out (Nat.le_refl _))) Kb2.trans (kb2_b (by omega) (by omega)) (Below.refl _ _) (fun _ => rfl)
      (fun pre W => ((((W.rowIs (w.heap.size + 1) 3 cnt (bzF R C Z k pre) ∧ Boxed W (w.heap.size + 1 + 1) 33 (.slice (some ⟨w.heap.size + 1, 0, none⟩) cnt cnt)) ∧ Boxed W wr.heap.size 3 (.int .i64 k)) ∧ W.heap[w.heap.size]? = some (.cells #[.int .i64 R, .int .i64 C, .slice (some ⟨gg, 0, none⟩) cnt cap] 52 (0, 0))) ∧ Coll w.heap.size wr.heap.size ds W) ∧ Below w.heap.size w W)
      (fun _ _ _ => False)
      (OwnFrom.and (OwnFrom.and (OwnFrom.and (OwnFrom.and (OwnFrom.and (Own.from (rowIs_own _ _ _ _) _) (Own.from (boxed_own _ _ _) _)) (Own.from (boxed_own _ _ _) _)) (keep_block (by omega))) (ownFrom_coll (by omega))) (ownFrom_below (Nat.le_refl _) (by omega)))
      (fun _ _ _ _ _ hs _ _ => hs)
      ⟨⟨⟨⟨⟨HROW.out.of_block (NB.out.block _ (by omega)), (NB.out.block _ hS2).trans HBOX.out⟩, N1.out⟩, (NB.out.block _ hS).trans HM.out⟩, HCO.out.below NB.out (Nat.le_refl _)⟩, HB.out.trans (NB.out.mono HB.out.size)⟩
      (fun x => { tmps := #[.agg #[.int .i64 R, .int .i64 C, .slice (some ⟨gg, 0, none⟩) cnt cap], .pointer (some ⟨w.heap.size, 0, none⟩), .slice none 0 0, .pointer (some ⟨w.heap.size + 1 + 1, 0, none⟩), .pointer (some ⟨wr.heap.size, 0, none⟩), .int .i64 x.1,
        .pointer (some ⟨w.heap.size, 2, none⟩), .slice (some ⟨gg, 0, none⟩) cnt cap, .int .i64 cnt, .slice (some ⟨w.heap.size + 1, 0, none⟩) cnt cnt, .slice (some ⟨w.heap.size + 1, 0, none⟩) cnt cnt, .int .i64 cnt, .int .i64 k, .bool true, .int .i64 k,
        .agg #[.int .i64 R, .int .i64 C, .slice (some ⟨gg, 0, none⟩) cnt cap], .int .i64 k, .func (.func 102) #[] #[.pointer (some ⟨wr.heap.size + 1 + 1, 0, none⟩), .pointer (some ⟨wr.heap.size + 1, 0, none⟩)], .int .i64 x.1, undef, undef, undef, undef, u23, undef], defers := [] }) ?assign ?body ?done ?stop
    case assign =>
      intro l x W K2 hK2
      gi_wp2
      simpa using hK2
    case body =>
      rintro l pre x W ⟨⟨⟨⟨⟨hrow, hbx⟩, hst⟩, hm⟩, hco⟩, hB⟩ hpl
      have c1 := hbx.cell
      have c2 := hst.cell
      have c3 := hrow.cell hlt
      have f1 : W.frozen? ⟨w.heap.size + 1, k, none⟩ = false := hrow.frozen k
      have R1 := Lib.hid ((hrow.set k (.int .i64 x.1)).congr (g := bzF R C Z k (pre ++ [x])) (fun j _ => bzF_put k pre x j))
      have HBX := Lib.hid hbx
      have HST := Lib.hid hst
      have HM2 := Lib.hid hm
      have HCO2 := Lib.hid hco
      have HB2 := Lib.hid hB
      have hk' : (k : Int) < cnt := by omega
      obtain ⟨y, ey⟩ : ∃ y, bzF R C Z k pre k = y := ⟨_, rfl⟩
      rw [ey] at c3
      clear hrow hbx hst hm hco hB ey
      gi_wp2
      refine ⟨KeepsOthers.setCell _ _ _, ⟨⟨by simp [World.setCell], Below.heap_setCell _ _ _ _ (by simp; omega)⟩, ⟨by simp [World.setCell], Below.heap_setCell _ _ _ _ (by simp; omega)⟩⟩, ⟨⟨⟨⟨R1.out, ?_⟩, ?_⟩, ?_⟩, HCO2.out.others (KeepsOthers.setCell _ _ _)⟩, HB2.out.setCell (p := ⟨w.heap.size + 1, k, none⟩) (Nat.le_succ _) _⟩
      · exact (Below.heap_setCell _ _ _ _ (by simp)).trans HBX.out
      · exact (Below.heap_setCell _ _ _ _ (by simp; omega)).trans HST.out
      · exact (Below.heap_setCell _ _ _ _ (by simp)).trans HM2.out
    case done =>
      rintro D ys W hD rfl ⟨⟨⟨⟨⟨hrow, hbx⟩, hst⟩, hm⟩, hco⟩, hB⟩ hKD
      have hDlt := (Array.getElem?_eq_some_iff.1 hKD).1
      have F1 := Lib.hid (hrow.congr (g := bzF R C Z (k + 1) []) (fun j _ => by rw [← HI.out]; exact bzF_next HZ.out i j))
      have F2 := Lib.hid hbx
      have F3 := Lib.hid hm
      have F4 := Lib.hid hB
      have F5 := Lib.hid ((hco.cons (by omega) (by omega) hKD).mono (N' := W.heap.size) (by omega))
      clear hrow hbx hst hm hco hB hKD
      gi_wp2
      refine HK.out _ _ ⟨k + 1, _, _, _, _, _, _, _, _, rfl, by omega, F1.out, F2.out, F3.out, F4.out, F5.out⟩ ?_
      simp [intOf]; omega
    case stop =>
      rintro D c pre W _ _ h _
      exact h.elim
  · have ek : k = cnt := by omega
    have HROW2 := Lib.hid (show wr.rowIs (w.heap.size + 1) 3 cnt (bzF R C Z cnt []) by rw [ek] at hrow; exact hrow)
    have c3 := hbox.cell
    have hge : ¬ (k : Int) < cnt := by omega
    have hbl := bsL_len R C Z (R * C) (Nat.le_refl _)
    have HBL := Lib.hid (show (bsL R C Z (R * C)).length = cnt by rw [HCN.out]; exact hbl)
    clear hK hrow hbox hm hb hcoll ek hbl
    gi_wp2
    refine HCO.out.leaves (fun W => results_tmp rfl _ _ _) (fun W' hS => ⟨_, rfl, ?_, HB.out.trans hS.below⟩)
    refine lists_row (hS.row HROW2.out) (by omega) HBL.out (by omega) (fun j hj => ?_)
    have hjc : j < cnt := by rw [← HBL.out]; exact hj
    rw [bsL_get (R * C) j hj (Nat.le_refl _)]
    simp [bzF, hjc]

end Go.Proofs.Ytplfphpnpjjinaa
