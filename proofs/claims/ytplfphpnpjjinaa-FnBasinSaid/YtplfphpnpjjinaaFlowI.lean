/- The program's flow: how often each cell is in a run. -/
import Derived.Test.YtplfphpnpjjinaaFlowM
import Derived.Test.YtplfphpnpjjinaaBasI
namespace Go.Proofs.Ytplfphpnpjjinaa
open Go.RowKit Go.Shelf
set_option linter.unusedVariables false
attribute [local go_sem] Oper.semAt_some

theorem two_allocs (w : World) (o1 o2 : Obj) : let W := (w.alloc o1).alloc o2
    W.heap[w.heap.size]? = some o1 ∧ W.heap[w.heap.size + 1]? = some o2 ∧ W.heap.size = w.heap.size + 2 ∧ Below w.heap.size w W := by
  intro W
  have e1 : (w.alloc o1).heap.size = w.heap.size + 1 := by simp
  refine ⟨(Below.heap_alloc (w.alloc o1) o2 _ (by omega)).trans (heap_alloc_new w o1), ?_, by simp [W], ((Below.refl _ _).alloc (Nat.le_refl _) _).alloc (by simp) _⟩
  have := heap_alloc_new (w.alloc o1) o2
  rw [e1] at this
  exact this

set_option maxRecDepth 100000 in
set_option maxHeartbeats 8000000 in
theorem flow_any (R C gg cap cnt : Nat) (hR : R ≤ 7) (hC : C ≤ 7) (Z : Nat → Int) (hZ : ∀ x, x < R * C → 0 ≤ Z x ∧ Z x ≤ 99) (w : World) (h : Rv w R C cnt gg cap Z) :
    Calls Try.prog 77 #[.agg #[.int .i64 R, .int .i64 C, .slice (some ⟨gg, 0, none⟩) cnt cap]] w (fun e w' => ∃ b, e = .returned (.slice (some ⟨b, 0, none⟩) cnt cnt) ∧ w.heap.size ≤ b ∧ w'.rowIs b 3 cnt (fun j => .int .i64 (flN R C Z cnt j : Nat)) ∧ Below w.heap.size w w') := by
  have H := Lib.hid h
  have HZ := Lib.hid hZ
  have hcn := h.n_eq
  have h49 := mul_le_49 hR hC
  have hcn49 : cnt ≤ 49 := by omega
  have hgl : gg < w.heap.size := h.lt
  have hle : cnt ≤ cap := h.le
  have HCN := Lib.hid hcn
  clear h hZ hcn
  have hmk := run_make_row' (P := Try.prog) 33 3 (.int .i64 0) 8 Try.underlying33 Try.infoI rfl .i64 .i64 cnt (by omega) (by omega)
  refine (callsIn_wide (n := 5)).1 ?_
  refine callsIn_of_wp_marks Try.func77 rfl trivial ?_ rfl
  simp only [Try.ntmps77, List.size_toArray, List.length_cons, List.length_nil, Nat.reduceAdd, Nat.reduceSub, Array.replicate_succ, Array.replicate_zero, List.push_toArray, List.append_toArray, List.nil_append, List.cons_append]
  gi_wp2
  have e1 : (w.alloc (.cells #[.int .i64 R, .int .i64 C, .slice (some ⟨gg, 0, none⟩) cnt cap] 52)).heap.size = w.heap.size + 1 := by simp
  have e2 : ((w.alloc (.cells #[.int .i64 R, .int .i64 C, .slice (some ⟨gg, 0, none⟩) cnt cap] 52)).alloc (.cells (madeCells #[.int .i64 0] cnt) 3)).heap.size = w.heap.size + 1 + 1 := by simp
  have k1 : (((w.alloc (.cells #[.int .i64 R, .int .i64 C, .slice (some ⟨gg, 0, none⟩) cnt cap] 52)).alloc (.cells (madeCells #[.int .i64 0] cnt) 3)).alloc (.cells #[.slice (some ⟨w.heap.size + 1, 0, none⟩) cnt cnt] 33)).heap[w.heap.size]? = some (.cells #[.int .i64 R, .int .i64 C, .slice (some ⟨gg, 0, none⟩) cnt cap] 52 (0, 0)) :=
    (Below.heap_alloc _ _ _ (by omega)).trans ((Below.heap_alloc _ _ _ (by omega)).trans (heap_alloc_new w _))
  have k2 := ((World.rowIs_made (w.alloc (.cells #[.int .i64 R, .int .i64 C, .slice (some ⟨gg, 0, none⟩) cnt cap] 52)) (.int .i64 0) cnt 3).alloc (.cells #[.slice (some ⟨w.heap.size + 1, 0, none⟩) cnt cnt] 33)).congr (g := flF R C Z 0 []) (fun j _ => (flF_start j).symm)
  have k3 : Boxed (((w.alloc (.cells #[.int .i64 R, .int .i64 C, .slice (some ⟨gg, 0, none⟩) cnt cap] 52)).alloc (.cells (madeCells #[.int .i64 0] cnt) 3)).alloc (.cells #[.slice (some ⟨w.heap.size + 1, 0, none⟩) cnt cnt] 33)) (w.heap.size + 1 + 1) 33 (.slice (some ⟨w.heap.size + 1, 0, none⟩) cnt cnt) := by
    have := heap_alloc_new ((w.alloc (.cells #[.int .i64 R, .int .i64 C, .slice (some ⟨gg, 0, none⟩) cnt cap] 52)).alloc (.cells (madeCells #[.int .i64 0] cnt) 3)) (.cells #[.slice (some ⟨w.heap.size + 1, 0, none⟩) cnt cnt] 33)
    rw [e2] at this; exact this
  rw [e1] at k2
  have kb : Below w.heap.size w (((w.alloc (.cells #[.int .i64 R, .int .i64 C, .slice (some ⟨gg, 0, none⟩) cnt cap] 52)).alloc (.cells (madeCells #[.int .i64 0] cnt) 3)).alloc (.cells #[.slice (some ⟨w.heap.size + 1, 0, none⟩) cnt cnt] 33)) := (((Below.refl _ _).alloc (Nat.le_refl _) _).alloc (by simp) _).alloc (by simp; omega) _
  generalize hW0 : (((w.alloc (.cells #[.int .i64 R, .int .i64 C, .slice (some ⟨gg, 0, none⟩) cnt cap] 52)).alloc (.cells (madeCells #[.int .i64 0] cnt) 3)).alloc (.cells #[.slice (some ⟨w.heap.size + 1, 0, none⟩) cnt cnt] 33)) = W0 at k1 k2 k3 kb ⊢
  clear hW0 e1 e2 hmk
  refine wpIn_loop_k (fun a W => ∃ (k : Nat) (ds : List Deferred) (u4 u13 u14 u15 u16 u17 u25 : Value), a = { tmps := #[.agg #[.int .i64 R, .int .i64 C, .slice (some ⟨gg, 0, none⟩) cnt cap], .pointer (some ⟨w.heap.size, 0, none⟩), .slice none 0 0, .pointer (some ⟨w.heap.size + 1 + 1, 0, none⟩), u4, undef,
      .pointer (some ⟨w.heap.size, 2, none⟩), .slice (some ⟨gg, 0, none⟩) cnt cap, .int .i64 cnt, .slice (some ⟨w.heap.size + 1, 0, none⟩) cnt cnt, .slice (some ⟨w.heap.size + 1, 0, none⟩) cnt cnt, .int .i64 cnt, .int .i64 k, u13, u14, u15, u16, u17, undef, undef, undef, undef, undef, undef, undef, u25, undef], defers := ds } ∧
      k ≤ cnt ∧ W.rowIs (w.heap.size + 1) 3 cnt (flF R C Z k []) ∧ Boxed W (w.heap.size + 1 + 1) 33 (.slice (some ⟨w.heap.size + 1, 0, none⟩) cnt cnt) ∧ W.heap[w.heap.size]? = some (.cells #[.int .i64 R, .int .i64 C, .slice (some ⟨gg, 0, none⟩) cnt cap] 52 (0, 0)) ∧ Below w.heap.size w W ∧ Coll w.heap.size W.heap.size ds W)
    (fun a _ => cnt - (intOf (a.tmps.getD 12 undef)).toNat) ⟨0, [], _, _, _, _, _, _, _, rfl, Nat.zero_le _, k2, k3, k1, kb, Coll.nil⟩ ?_
  rintro _ wr ⟨k, ds, u4, u13, u14, u15, u16, u17, u25, rfl, hk, hrow, hbox, hm, hb, hcoll⟩ K hK
  clear k1 k2 k3 kb
  have HK := Lib.hid @hK
  have HROW := Lib.hid hrow
  have HM := Lib.hid hm
  have HB := Lib.hid hb
  have HCO := Lib.hid hcoll
  have hS : w.heap.size < wr.heap.size := (Array.getElem?_eq_some_iff.1 hm).1
  have hS2 : w.heap.size + 1 + 1 < wr.heap.size := hbox.lt
  by_cases hlt : k < cnt
  · obtain ⟨i, hi'⟩ : ∃ i : Ix (R * C), i.1 = k := ⟨⟨k, by rw [← HCN.out]; exact hlt⟩, rfl⟩
    have HI := Lib.hid hi'
    obtain ⟨m0, m1, m2⟩ := three_cells hm
    have HBOX := Lib.hid hbox
    have hne : w.heap.size ≠ wr.heap.size := by omega
    clear hK hrow hbox hm hb hcoll hi'
    gi_wp2_with (refine ⟨trivial, ?_⟩; gi_at_call 78; refine (callsIn_wide.2 (run_any R C gg cnt cap k _)).mono ?_; rintro e w' ⟨rfl, rfl⟩)
    obtain ⟨n2, n3, nsz, nb⟩ := two_allocs wr (.cells #[.int .i64 R, .int .i64 C, .slice (some ⟨gg, 0, none⟩) cnt cap] 52) (.cells #[.int .i64 k] 3)
    generalize hW3 : (wr.alloc (.cells #[.int .i64 R, .int .i64 C, .slice (some ⟨gg, 0, none⟩) cnt cap] 52)).alloc (.cells #[.int .i64 k] 3) = W3 at n2 n3 nsz nb ⊢
    clear hW3 m0 m1 m2
    have N2 := Lib.hid n2
    have N3 := Lib.hid n3
    have NS := Lib.hid nsz
    have NB := Lib.hid nb
    clear n2 n3 nb
    refine wpIn_rangeFunc_ownF rfl (by omega) (gf := 102) (lb := #[.pointer (some ⟨wr.heap.size + 1, 0, none⟩), .pointer (some ⟨wr.heap.size, 0, none⟩)]) rfl trivial (enters_of Try.func102 (by kernel_rfl) rfl)
      (run_stops 4 (by omega) (wr.heap.size + 1) wr.heap.size R C gg cap cnt hR hC Z HZ.out i W3 (by omega) (by omega) (by rw [HI.out]; exact one_cell N3.out) (three_cells N2.out) ((H.out.keep HB.out (Nat.le_refl _)).keep NB.out (Nat.le_refl _))) Kb2.trans (kb2_b (by omega) (by omega)) (Below.refl _ _) (fun _ => rfl)
      (fun pre W => (((W.rowIs (w.heap.size + 1) 3 cnt (flF R C Z k pre) ∧ Boxed W (w.heap.size + 1 + 1) 33 (.slice (some ⟨w.heap.size + 1, 0, none⟩) cnt cnt)) ∧ W.heap[w.heap.size]? = some (.cells #[.int .i64 R, .int .i64 C, .slice (some ⟨gg, 0, none⟩) cnt cap] 52 (0, 0))) ∧ Coll w.heap.size wr.heap.size ds W) ∧ Below w.heap.size w W)
      (fun _ _ _ => False)
      (OwnFrom.and (OwnFrom.and (OwnFrom.and (OwnFrom.and (Own.from (rowIs_own _ _ _ _) _) (Own.from (boxed_own _ _ _) _)) (keep_block (by omega))) (ownFrom_coll (by omega))) (ownFrom_below (Nat.le_refl _) (by omega)))
      (fun _ _ _ _ _ hs _ _ => hs)
      ⟨⟨⟨⟨HROW.out.of_block (NB.out.block _ (by omega)), (NB.out.block _ hS2).trans HBOX.out⟩, (NB.out.block _ hS).trans HM.out⟩, HCO.out.below NB.out (Nat.le_refl _)⟩, HB.out.trans (NB.out.mono HB.out.size)⟩
      (fun x => { tmps := #[.agg #[.int .i64 R, .int .i64 C, .slice (some ⟨gg, 0, none⟩) cnt cap], .pointer (some ⟨w.heap.size, 0, none⟩), .slice none 0 0, .pointer (some ⟨w.heap.size + 1 + 1, 0, none⟩), .int .i64 k, .int .i64 x.1,
        .pointer (some ⟨w.heap.size, 2, none⟩), .slice (some ⟨gg, 0, none⟩) cnt cap, .int .i64 cnt, .slice (some ⟨w.heap.size + 1, 0, none⟩) cnt cnt, .slice (some ⟨w.heap.size + 1, 0, none⟩) cnt cnt, .int .i64 cnt, .int .i64 k, .bool true, .int .i64 k,
        .agg #[.int .i64 R, .int .i64 C, .slice (some ⟨gg, 0, none⟩) cnt cap], .int .i64 k, .func (.func 102) #[] #[.pointer (some ⟨wr.heap.size + 1, 0, none⟩), .pointer (some ⟨wr.heap.size, 0, none⟩)], .int .i64 x.1, undef, undef, undef, undef, undef, undef, u25, undef], defers := [] }) ?assign ?body ?done ?stop
    case assign =>
      intro l x W K2 hK2
      gi_wp2
      simpa using hK2
    case body =>
      rintro l pre x W ⟨⟨⟨⟨hrow, hbx⟩, hm⟩, hco⟩, hB⟩ hpl
      have c1 := hbx.cell
      have hxc : x.1 < cnt := by rw [HCN.out]; exact x.2
      have hpl2 : pre.length ≤ 100 := by have := runL_len R C Z i; omega
      have hcl := cntL_le pre x.1
      have hfl := flN_le R C Z k x.1
      obtain ⟨m, hm2⟩ : ∃ m, flN R C Z k x.1 + cntL pre x.1 = m := ⟨_, rfl⟩
      have c3 : W.cell? ⟨w.heap.size + 1, x.1, none⟩ = some (.int .i64 m) := by rw [hrow.cell hxc]; unfold flF; rw [hm2]
      have f1 : W.frozen? ⟨w.heap.size + 1, x.1, none⟩ = false := hrow.frozen x.1
      have R1 := Lib.hid ((hrow.set x.1 (.int .i64 ((m + 1 : Nat) : Int))).congr (g := flF R C Z k (pre ++ [x])) (fun j _ => flF_put k pre x m hm2 j))
      have HBX := Lib.hid hbx
      have HM2 := Lib.hid hm
      have HCO2 := Lib.hid hco
      have HB2 := Lib.hid hB
      have hm5 : m ≤ 5000 := by omega
      obtain ⟨xi, exi⟩ : ∃ xi, x.1 = xi := ⟨_, rfl⟩
      rw [exi] at c3 f1 R1 hxc
      have hx' : (xi : Int) < cnt := by omega
      have hw : IntKind.i64.wrap ((m : Int) + 1) = ((m + 1 : Nat) : Int) := by rw [IntWalk.i64_in _ (by omega)]; omega
      rw [exi]
      clear hrow hbx hm hco hB hm2 exi hcl hfl hpl hpl2
      gi_wp2
      refine ⟨KeepsOthers.setCell _ _ _, ⟨⟨by simp [World.setCell], Below.heap_setCell _ _ _ _ (by simp; omega)⟩, ⟨by simp [World.setCell], Below.heap_setCell _ _ _ _ (by simp; omega)⟩⟩, ⟨⟨⟨R1.out, ?_⟩, ?_⟩, HCO2.out.others (KeepsOthers.setCell _ _ _)⟩, HB2.out.setCell (p := ⟨w.heap.size + 1, xi, none⟩) (Nat.le_succ _) _⟩
      · exact (Below.heap_setCell _ _ _ _ (by simp)).trans HBX.out
      · exact (Below.heap_setCell _ _ _ _ (by simp)).trans HM2.out
    case done =>
      rintro D ys W hD rfl ⟨⟨⟨⟨hrow, hbx⟩, hm⟩, hco⟩, hB⟩ hKD
      have hDlt := (Array.getElem?_eq_some_iff.1 hKD).1
      have F1 := Lib.hid (hrow.congr (g := flF R C Z (k + 1) []) (fun j _ => by rw [← HI.out]; exact flF_next i j))
      have F2 := Lib.hid hbx
      have F3 := Lib.hid hm
      have F4 := Lib.hid hB
      have F5 := Lib.hid ((hco.cons (by omega) (by omega) hKD).mono (N' := W.heap.size) (by omega))
      clear hrow hbx hm hco hB hKD
      gi_wp2
      refine HK.out _ _ ⟨k + 1, _, _, _, _, _, _, _, _, rfl, by omega, F1.out, F2.out, F3.out, F4.out, F5.out⟩ ?_
      simp [intOf]; omega
    case stop =>
      rintro D c pre W _ _ h _
      exact h.elim
  · have ek : k = cnt := by omega
    have HROW2 := Lib.hid (show wr.rowIs (w.heap.size + 1) 3 cnt (fun j => .int .i64 (flN R C Z cnt j : Nat)) by rw [ek] at hrow; exact hrow.congr (fun j _ => by unfold flF; rw [cntL_nil]; rfl))
    have c3 := hbox.cell
    have hge : ¬ (k : Int) < cnt := by omega
    clear hK hrow hbox hm hb hcoll ek
    gi_wp2
    exact HCO.out.leaves (fun W => results_tmp rfl _ _ _) (fun W' hS => ⟨_, rfl, by omega, hS.row HROW2.out, HB.out.trans hS.below⟩)

set_option maxHeartbeats 2000000 in
set_option maxRecDepth 100000 in
theorem implWaterFlow_any (v : Value) (lo hi : Nat) (g : G) (w : World) (hv : RdM lo hi w v g) (hh : hi ≤ w.heap.size) (b : Bool) (hbb : b = true ↔ g.Valid) :
    Calls Try.prog 39 #[v] w (LgPost b g.flW g.flZ w) := by
  by_cases h : g.Valid
  case neg =>
    have HC := Lib.hid (reliefOf_no v lo hi g w hv hh h)
    have HA := Lib.hid (G.flW_no h)
    obtain rfl : b = false := by cases b; rfl; exact absurd (hbb.1 rfl) h
    clear hv h hbb
    go_enter Try.func39, Try.ntmps39
    go_wp2_with fail
    refine HC.out.mono ?_
    rintro e w1 ⟨rfl, hb1⟩
    have HB1 := Lib.hid (hb1.alloc hb1.size (.cells #[.int .i64 0, .int .i64 0, .slice none 0 0] 52))
    clear hb1
    go_wp2
    go_ret2
    exact ⟨_, rfl, ⟨_, _, _, rfl⟩, by rw [HA.out]; exact OwI.none _ _ _ _, HB1.out⟩
  case pos =>
    have HC := Lib.hid (reliefOf_yes v lo hi g w hv hh h)
    have HA := Lib.hid (G.flW_yes h)
    have HZ := Lib.hid (fun x (hx : x < g.n * g.len 0) => flat_okW h hx)
    obtain rfl : b = true := hbb.2 h
    have hn7 := h.1.2
    have hl7 := h.2.1.2
    have HFR := Lib.hid (G.flZ_range g (mul_le_49 hn7 hl7))
    have H49 := Lib.hid (mul_le_49 hn7 hl7)
    clear hv h hbb
    go_enter Try.func39, Try.ntmps39
    go_wp2_with fail
    refine HC.out.mono ?_
    intro e w1 hq
    obtain ⟨n, gg, cap, rfl, hrv, hb1⟩ := hq.rv
    have HNE := Lib.hid hrv.n_eq
    have HB1 := Lib.hid (hb1.alloc hb1.size (.cells #[.int .i64 g.n, .int .i64 (g.len 0), .slice (some ⟨gg, 0, none⟩) n cap] 52))
    have HL := Lib.hid (flow_any g.n (g.len 0) gg cap n hn7 hl7 g.flat HZ.out _ (hrv.keep ((Below.refl w1.heap.size w1).alloc (Nat.le_refl _) (.cells #[.int .i64 g.n, .int .i64 (g.len 0), .slice (some ⟨gg, 0, none⟩) n cap] 52)) (Nat.le_refl _)))
    clear hq hrv hb1
    go_wp2_with fail
    refine HL.out.mono ?_
    rintro e w3 ⟨b3, rfl, hl3, hrow, hb3⟩
    have HB3 := Lib.hid (HB1.out.trans (hb3.mono HB1.out.size))
    have HO := Lib.hid (show OwI w.heap.size w3.heap.size w3 (.slice (some ⟨b3, 0, none⟩) n n) g.flW g.flZ from by
      rw [HA.out, ← HNE.out]
      have h49 := H49.out
      rw [← HNE.out] at h49
      exact Or.inr ⟨b3, n, n, _, rfl, Nat.le_trans HB1.out.size hl3, hrow.lt, hrow, Nat.le_refl _, Nat.le_refl _, by omega, fun j hj => by show _ = Value.int .i64 (g.flZ j); unfold G.flZ; rw [← HNE.out], fun j _ => by have := HFR.out j; omega⟩)
    clear hb3 hl3 hrow
    go_wp2
    go_ret2
    exact ⟨_, rfl, ⟨_, _, _, rfl⟩, HO.out, HB3.out⟩

end Go.Proofs.Ytplfphpnpjjinaa
