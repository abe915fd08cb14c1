/- The shore in the program. -/
import Derived.Test.YtmhcpjekpkdaeaaLvI
import Derived.Test.YtmhcpjekpkdaeaaBasI
namespace Go.Proofs.Ytmhcpjekpkdaeaa
open Go.RowKit Go.Shelf
set_option linter.unusedVariables false
attribute [local go_sem] Oper.semAt_some

theorem others_below {W W' : World} (h : Below W.heap.size W W') : KeepsOthers W W' := ⟨h.size, fun k o ho _ => (h.block k (Array.getElem?_eq_some_iff.1 ho).1).trans ho⟩

theorem two_allocs (w : World) (o1 o2 : Obj) : let W := (w.alloc o1).alloc o2
    W.heap[w.heap.size]? = some o1 ∧ W.heap[w.heap.size + 1]? = some o2 ∧ W.heap.size = w.heap.size + 2 ∧ Below w.heap.size w W := by
  intro W
  have e1 : (w.alloc o1).heap.size = w.heap.size + 1 := by simp
  have b2 := fun k hk => Below.heap_alloc (w.alloc o1) o2 k hk
  refine ⟨(b2 _ (by omega)).trans (heap_alloc_new w o1), ?_, by simp [W], ((Below.refl _ _).alloc (Nat.le_refl _) _).alloc (by simp) _⟩
  have := heap_alloc_new (w.alloc o1) o2
  rw [e1] at this
  exact this

set_option maxRecDepth 100000 in
set_option maxHeartbeats 8000000 in
theorem shore_any (R C gg cap cnt : Nat) (hR : R ≤ 7) (hC : C ≤ 7) (Z : Nat → Int) (lv : Int) (w : World) (h : Rv w R C cnt gg cap Z) :
    Calls Try.prog 57 #[.agg #[.int .i64 R, .int .i64 C, .slice (some ⟨gg, 0, none⟩) cnt cap, .int .i64 lv]] w (IntPost (shoreN R C Z lv cnt) w) := by
  have H := Lib.hid h
  have hcn := h.n_eq
  have h49 := mul_le_49 hR hC
  have hcn49 : cnt ≤ 49 := by omega
  have hgl : gg < w.heap.size := h.lt
  have hle : cnt ≤ cap := h.le
  have HCN := Lib.hid hcn
  clear h hcn
  refine (callsIn_wide (n := 5)).1 ?_
  refine callsIn_of_wp_marks Try.func57 rfl trivial ?_ rfl
  simp only [Try.ntmps57, List.size_toArray, List.length_cons, List.length_nil, Nat.reduceAdd, Nat.reduceSub, Array.replicate_succ, Array.replicate_zero, List.push_toArray, List.append_toArray, List.nil_append, List.cons_append]
  gi_wp2
  obtain ⟨k1, k2, ksz, kb⟩ := two_allocs w (.cells #[.int .i64 R, .int .i64 C, .slice (some ⟨gg, 0, none⟩) cnt cap, .int .i64 lv] 48) (.cells #[.int .i64 0] 3)
  generalize hW0 : (w.alloc (.cells #[.int .i64 R, .int .i64 C, .slice (some ⟨gg, 0, none⟩) cnt cap, .int .i64 lv] 48)).alloc (.cells #[.int .i64 0] 3) = W0 at k1 k2 ksz kb ⊢
  clear hW0
  refine wpIn_loop_k (fun a W => ∃ (k : Nat) (ds : List Deferred) (u4 u11 u12 u13 u14 u15 u16 u17 u18 u19 u20 u21 u22 u29 : Value), a = { tmps := #[.agg #[.int .i64 R, .int .i64 C, .slice (some ⟨gg, 0, none⟩) cnt cap, .int .i64 lv], .pointer (some ⟨w.heap.size, 0, none⟩), .int .i64 0, .pointer (some ⟨w.heap.size + 1, 0, none⟩), u4, undef,
      .pointer (some ⟨w.heap.size, 0, none⟩), .pointer (some ⟨w.heap.size, 2, none⟩), .slice (some ⟨gg, 0, none⟩) cnt cap, .int .i64 cnt, .int .i64 k, u11, u12, u13, u14, u15, u16, u17, u18, u19, u20, u21, u22, undef, undef, undef, undef, undef, undef, u29, undef], defers := ds } ∧
      k ≤ cnt ∧ Boxed W (w.heap.size + 1) 3 (.int .i64 (shoreN R C Z lv k)) ∧ W.heap[w.heap.size]? = some (.cells #[.int .i64 R, .int .i64 C, .slice (some ⟨gg, 0, none⟩) cnt cap, .int .i64 lv] 48 (0, 0)) ∧ Below w.heap.size w W ∧ Coll w.heap.size W.heap.size ds W)
    (fun a _ => cnt - (intOf (a.tmps.getD 10 undef)).toNat) ⟨0, [], _, _, _, _, _, _, _, _, _, _, _, _, _, _, rfl, Nat.zero_le _, k2, k1, kb, Coll.nil⟩ ?_
  rintro _ wr ⟨k, ds, u4, u11, u12, u13, u14, u15, u16, u17, u18, u19, u20, u21, u22, u29, rfl, hk, hbox, hm, hb, hcoll⟩ K hK
  clear k1 k2 kb ksz
  have HK := Lib.hid @hK
  have HM := Lib.hid hm
  have HB := Lib.hid hb
  have HCO := Lib.hid hcoll
  have HBOX := Lib.hid hbox
  have hS : w.heap.size < wr.heap.size := (Array.getElem?_eq_some_iff.1 hm).1
  have hS2 : w.heap.size + 1 < wr.heap.size := hbox.lt
  have hsh := shoreN_le R C Z lv k
  by_cases hlt : k < cnt
  · obtain ⟨i, hi'⟩ : ∃ i : Ix (R * C), i.1 = k := ⟨⟨k, by rw [← HCN.out]; exact hlt⟩, rfl⟩
    have HI := Lib.hid hi'
    obtain ⟨m0, m1, m2, m3⟩ := cells4 hm
    have HRV := Lib.hid (H.out.keep HB.out (Nat.le_refl _))
    have HNB := Lib.hid (nbl_at (lv := lv) (Z := Z) i)
    rw [hi'] at HNB
    by_cases hz : lv ≤ Z k
    · have HSY := Lib.hid (shoreN_yes (R := R) (C := C) hz)
      have HIL := Lib.hid (isLand_yes R C gg cap cnt Z lv k wr HRV.out hlt (by omega) hz)
      obtain ⟨s, es⟩ : ∃ s, shoreN R C Z lv k = s := ⟨_, rfl⟩
      rw [es] at hsh HSY HBOX
      clear hK hbox hm hb hcoll hi' hz es
      gi_wp2_with fail
      refine ⟨trivial, ?_⟩
      gi_at_call 67
      refine (callsIn_wide.2 HIL.out).mono ?_
      rintro e w2 ⟨rfl, hb2⟩
      have HB2 := Lib.hid hb2
      have c3 := Boxed.cell (show Boxed w2 (w.heap.size + 1) 3 (.int .i64 (s : Int)) from (hb2.block _ hS2).trans HBOX.out)
      have f3 := Boxed.frozen (show Boxed w2 (w.heap.size + 1) 3 (.int .i64 (s : Int)) from (hb2.block _ hS2).trans HBOX.out)
      have hm2 := (hb2.block _ hS).trans HM.out
      have hs2 := hb2.size
      obtain ⟨m0, m1, m2, m3⟩ := cells4 hm2
      clear hb2
      gi_wp2_with (refine ⟨trivial, ?_⟩; gi_at_call 77; refine (callsIn_wide.2 (nb_any R C gg cnt cap k _)).mono ?_; rintro e w' ⟨rfl, rfl⟩)
      have hsz : (w2.setCell ⟨w.heap.size + 1, 0, none⟩ (.int .i64 ((s : Int) + 4))).heap.size = w2.heap.size := by simp [World.setCell]
      have F1 := Lib.hid ((show Boxed w2 (w.heap.size + 1) 3 (.int .i64 (s : Int)) from (HB2.out.block _ hS2).trans HBOX.out).set (.int .i64 ((s : Int) + 4)))
      have F2 := Lib.hid ((Below.heap_setCell w2 ⟨w.heap.size + 1, 0, none⟩ (.int .i64 ((s : Int) + 4)) w.heap.size (by simp)).trans hm2)
      have F3 := Lib.hid ((HB.out.trans (HB2.out.mono HB.out.size)).setCell (p := ⟨w.heap.size + 1, 0, none⟩) (Nat.le_succ _) (.int .i64 ((s : Int) + 4)))
      have F4 := Lib.hid ((HCO.out.below HB2.out (Nat.le_refl _)).others (KeepsOthers.setCell w2 ⟨w.heap.size + 1, 0, none⟩ (.int .i64 ((s : Int) + 4))))
      generalize hW1 : w2.setCell ⟨w.heap.size + 1, 0, none⟩ (.int .i64 ((s : Int) + 4)) = W1 at F1 F2 F3 F4 hsz ⊢
      obtain ⟨n1, n2, nsz, nb⟩ := two_allocs W1 (.cells #[.int .i64 R, .int .i64 C, .slice (some ⟨gg, 0, none⟩) cnt cap] 43) (.cells #[.int .i64 k] 3)
      rw [hsz] at n1 n2 nsz nb
      generalize hW3 : (W1.alloc (.cells #[.int .i64 R, .int .i64 C, .slice (some ⟨gg, 0, none⟩) cnt cap] 43)).alloc (.cells #[.int .i64 k] 3) = W3 at n1 n2 nsz nb ⊢
      have E0 := Lib.hid (show (s : Int) + 4 - landL Z lv ([] : List (Ix (R * C))) = s + 4 by simp [landL])
      have N1 := Lib.hid n1
      have N2 := Lib.hid n2
      have NB := Lib.hid nb
      clear hW1 hW3 n1 n2 nb m0 m1 m2 m3 c3 f3 hm2
      refine wpIn_rangeFunc_ownF rfl (by omega) (gf := 84) (lb := #[.pointer (some ⟨w2.heap.size + 1, 0, none⟩), .pointer (some ⟨w2.heap.size, 0, none⟩)]) rfl trivial (enters_of Try.func84 (by kernel_rfl) rfl)
        (nb_stops 4 (by omega) (w2.heap.size + 1) w2.heap.size R C gg cap cnt hR hC i W3 (by omega) (by omega) (by rw [HI.out]; exact one_cell N2.out) (three_cells N1.out)) Kb.trans (kb_b (by omega)) (Below.refl _ _) (fun _ => rfl)
        (fun pre W => ((((Boxed W (w.heap.size + 1) 3 (.int .i64 ((s : Int) + 4 - landL Z lv pre))) ∧ W.heap[w.heap.size]? = some (.cells #[.int .i64 R, .int .i64 C, .slice (some ⟨gg, 0, none⟩) cnt cap, .int .i64 lv] 48 (0, 0))) ∧ Coll w.heap.size w2.heap.size ds W) ∧ W.heap[w2.heap.size]? = some (.cells #[.int .i64 R, .int .i64 C, .slice (some ⟨gg, 0, none⟩) cnt cap] 43 (0, 0))) ∧ Below w.heap.size w W)
        (fun _ _ _ => False)
        (OwnFrom.and (OwnFrom.and (OwnFrom.and (OwnFrom.and (Own.from (boxed_own _ _ _) _) (keep_block (by omega))) (ownFrom_coll (by omega))) (keep_block (by omega))) (ownFrom_below (Nat.le_refl _) (by omega)))
        (fun _ _ _ _ _ hs _ _ => hs)
        ⟨⟨⟨⟨(by rw [E0.out]; exact (NB.out.block _ (by omega)).trans F1.out), (NB.out.block _ (by omega)).trans F2.out⟩, (F4.out.below NB.out (by omega)).mono (by omega)⟩, N1.out⟩, F3.out.trans (NB.out.mono (by omega))⟩
        (fun x => { tmps := #[.agg #[.int .i64 R, .int .i64 C, .slice (some ⟨gg, 0, none⟩) cnt cap, .int .i64 lv], .pointer (some ⟨w.heap.size, 0, none⟩), .int .i64 0, .pointer (some ⟨w.heap.size + 1, 0, none⟩), .int .i64 k, .int .i64 x.1,
          .pointer (some ⟨w.heap.size, 0, none⟩), .pointer (some ⟨w.heap.size, 2, none⟩), .slice (some ⟨gg, 0, none⟩) cnt cap, .int .i64 cnt, .int .i64 k, .bool true, .int .i64 k, .agg #[.int .i64 R, .int .i64 C, .slice (some ⟨gg, 0, none⟩) cnt cap, .int .i64 lv], .int .i64 k, .bool true, .bool false,
          .int .i64 s, .int .i64 ((s : Int) + 4), .pointer (some ⟨w.heap.size, 0, none⟩), .agg #[.int .i64 R, .int .i64 C, .slice (some ⟨gg, 0, none⟩) cnt cap], .int .i64 k, .func (.func 84) #[] #[.pointer (some ⟨w2.heap.size + 1, 0, none⟩), .pointer (some ⟨w2.heap.size, 0, none⟩)], .int .i64 x.1, undef, undef, undef, undef, undef, u29, undef], defers := [] }) ?assign ?body ?done ?stop
      case assign =>
        intro l x W K2 hK2
        gi_wp2
        simpa using hK2
      case body =>
        rintro l pre x W ⟨⟨⟨⟨hbx, hm⟩, hco⟩, hrl⟩, hB⟩ hpl
        have HRL := Lib.hid hrl
        have hBW : w2.heap.size < W.heap.size := (Array.getElem?_eq_some_iff.1 hrl).1
        have hRW := H.out.keep hB (Nat.le_refl _)
        have hxc : x.1 < cnt := by rw [HCN.out]; exact x.2
        have hll := landL_le Z lv pre
        have hS3 : w.heap.size + 1 < W.heap.size := hbx.lt
        have HSN := Lib.hid (landL_snoc Z lv pre x)
        have HBX := Lib.hid hbx
        have HM2 := Lib.hid hm
        have HCO2 := Lib.hid hco
        have HB5 := Lib.hid hB
        obtain ⟨m0, m1, m2, m3⟩ := cells4 hm
        by_cases hz : lv ≤ Z x.1
        · have HIL2 := Lib.hid (isLand_yes R C gg cap cnt Z lv x.1 W hRW hxc (by omega) hz)
          have HSN' := Lib.hid (show landL Z lv (pre ++ [x]) = landL Z lv pre + 1 by rw [HSN.out, if_pos hz])
          obtain ⟨y, ey⟩ : ∃ y, x.1 = y := ⟨_, rfl⟩
          rw [ey] at HIL2 ⊢
          obtain ⟨q, eq⟩ : ∃ q, landL Z lv pre = q := ⟨_, rfl⟩
          rw [eq] at hll HSN' HBX
          clear hbx hm hco hrl hB hRW hz ey eq HSN
          gi_wp2_with fail
          refine ⟨trivial, ?_⟩
          gi_at_call 67
          refine ((callsIn_wide.2 HIL2.out).inRound l).mono ?_
          rintro e w5 ⟨rfl, hb5⟩
          have HB6 := Lib.hid hb5
          have hbx5 : Boxed w5 (w.heap.size + 1) 3 (.int .i64 ((s : Int) + 4 - q)) := (hb5.block _ hS3).trans HBX.out
          have c3 := hbx5.cell
          have f3 := hbx5.frozen
          have HBX5 := Lib.hid hbx5
          clear hb5 hbx5 m0 m1 m2 m3
          gi_wp2
          refine ⟨(others_below HB6.out).trans (KeepsOthers.setCell _ _ _), ⟨?_, ?_⟩, ⟨⟨⟨?_, ?_⟩, ?_⟩, ?_⟩, ?_⟩
          · have := HB6.out.size
            simpa [World.setCell] using this
          · exact (Below.heap_setCell _ _ _ _ (by simp; omega)).trans (HB6.out.block _ hBW)
          · have h1 := HBX5.out.set (.int .i64 ((s : Int) + 4 - q - 1))
            rw [HSN'.out]
            have e : (s : Int) + 4 - ((q + 1 : Nat) : Int) = (s : Int) + 4 - q - 1 := by omega
            rw [e]
            exact h1
          · exact (Below.heap_setCell _ _ _ _ (by simp)).trans ((HB6.out.block _ (by omega)).trans HM2.out)
          · exact (HCO2.out.others (others_below HB6.out)).others (KeepsOthers.setCell _ _ _)
          · exact (Below.heap_setCell _ _ _ _ (by simp; omega)).trans ((HB6.out.block _ hBW).trans HRL.out)
          · exact (HB5.out.trans (HB6.out.mono HB5.out.size)).setCell (p := ⟨w.heap.size + 1, 0, none⟩) (Nat.le_succ _) _
        · have HIL2 := Lib.hid (isLand_no R C gg cap cnt Z lv x.1 W hRW hxc (by omega) hz)
          have HSN' := Lib.hid (show landL Z lv (pre ++ [x]) = landL Z lv pre by rw [HSN.out, if_neg hz]; rfl)
          obtain ⟨y, ey⟩ : ∃ y, x.1 = y := ⟨_, rfl⟩
          rw [ey] at HIL2 ⊢
          clear hbx hm hco hrl hB hRW hz ey HSN
          gi_wp2_with fail
          refine ⟨trivial, ?_⟩
          gi_at_call 67
          refine ((callsIn_wide.2 HIL2.out).inRound l).mono ?_
          rintro e w5 ⟨rfl, hb5⟩
          have HB6 := Lib.hid hb5
          clear hb5 m0 m1 m2 m3
          gi_wp2
          refine ⟨others_below HB6.out, ⟨HB6.out.size, HB6.out.block _ hBW⟩, ⟨⟨⟨?_, ?_⟩, ?_⟩, ?_⟩, ?_⟩
          · rw [HSN'.out]
            exact (HB6.out.block _ hS3).trans HBX.out
          · exact (HB6.out.block _ (by omega)).trans HM2.out
          · exact HCO2.out.others (others_below HB6.out)
          · exact (HB6.out.block _ hBW).trans HRL.out
          · exact HB5.out.trans (HB6.out.mono HB5.out.size)
      case done =>
        rintro D ys W hD rfl ⟨⟨⟨⟨hbx, hm⟩, hco⟩, _⟩, hB⟩ hKD
        have hDlt := (Array.getElem?_eq_some_iff.1 hKD).1
        have G1 := Lib.hid (show Boxed W (w.heap.size + 1) 3 (.int .i64 (shoreN R C Z lv (k + 1) : Nat)) by rw [HSY.out, HNB.out]; exact hbx)
        have G2 := Lib.hid hm
        have G3 := Lib.hid hB
        have G4 := Lib.hid ((hco.cons (by omega) (by omega) hKD).mono (N' := W.heap.size) (by omega))
        clear hbx hm hco hB hKD
        gi_wp2
        refine HK.out _ _ ⟨k + 1, _, _, _, _, _, _, _, _, _, _, _, _, _, _, _, rfl, by omega, G1.out, G2.out, G3.out, G4.out⟩ ?_
        simp [intOf]; omega
      case stop =>
        rintro D c pre W _ _ h _
        exact h.elim
    · have HSN := Lib.hid (shoreN_no (R := R) (C := C) hz)
      have HIL := Lib.hid (isLand_no R C gg cap cnt Z lv k wr HRV.out hlt (by omega) hz)
      obtain ⟨s, es⟩ : ∃ s, shoreN R C Z lv k = s := ⟨_, rfl⟩
      rw [es] at hsh HSN HBOX
      clear hK hbox hm hb hcoll hi' hz es
      gi_wp2_with fail
      refine ⟨trivial, ?_⟩
      gi_at_call 67
      refine (callsIn_wide.2 HIL.out).mono ?_
      rintro e w2 ⟨rfl, hb2⟩
      have G1 := Lib.hid (show Boxed w2 (w.heap.size + 1) 3 (.int .i64 (shoreN R C Z lv (k + 1) : Nat)) by rw [HSN.out]; exact (hb2.block _ hS2).trans HBOX.out)
      have G2 := Lib.hid ((hb2.block _ hS).trans HM.out)
      have G3 := Lib.hid (HB.out.trans (hb2.mono HB.out.size))
      have G4 := Lib.hid ((HCO.out.below hb2 (Nat.le_refl _)).mono (N' := w2.heap.size) hb2.size)
      clear hb2 m0 m1 m2 m3
      gi_wp2
      refine HK.out _ _ ⟨k + 1, _, _, _, _, _, _, _, _, _, _, _, _, _, _, _, rfl, by omega, G1.out, G2.out, G3.out, G4.out⟩ ?_
      simp [intOf]; omega
  · have ek : k = cnt := by omega
    have hge : ¬ (k : Int) < cnt := by omega
    have c3 := hbox.cell
    have HE := Lib.hid (show ((shoreN R C Z lv k : Nat) : Int) = (shoreN R C Z lv cnt : Nat) by rw [ek])
    rw [HE.out] at c3
    clear hK hbox hm hb hcoll ek
    gi_wp2
    exact HCO.out.leaves (fun W => results_tmp rfl _ _ _) (fun W' hS => ⟨rfl, HB.out.trans hS.below⟩)

set_option maxHeartbeats 2000000 in
set_option maxRecDepth 100000 in
theorem implLevelShore_any (v : Value) (lo hi : Nat) (g : G) (lv : Int) (w : World) (hv : RdM lo hi w v g) (hh : hi ≤ w.heap.size) :
    Calls Try.prog 30 #[v, .int .i64 lv] w (IntPost (g.shV lv) w) := by
  by_cases h : g.LvOk lv
  case neg =>
    have HC := Lib.hid (layerOf_no v lo hi g lv w hv hh h)
    have HA := Lib.hid (G.shV_no h)
    clear hv h
    go_enter Try.func30, Try.ntmps30
    go_wp2_with fail
    refine HC.out.mono ?_
    rintro e w1 ⟨rfl, hb1⟩
    have HB1 := Lib.hid (hb1.alloc hb1.size (.cells #[.int .i64 0, .int .i64 0, .slice none 0 0, .int .i64 0] 48))
    clear hb1
    go_wp2
    go_ret
    exact ⟨ret_int HA.out.symm, HB1.out⟩
  case pos =>
    have HC := Lib.hid (layerOf_yes v lo hi g lv w hv hh h)
    have HA := Lib.hid (G.shV_yes h)
    have h49 := mul_le_49 h.1.1.2 h.1.2.1.2
    have h71 := h.1.1.2
    have h72 := h.1.2.1.2
    clear hv h
    go_enter Try.func30, Try.ntmps30
    go_wp2_with fail
    refine HC.out.mono ?_
    rintro e w1 ⟨n, gg, cap, rfl, hrv, hb1⟩
    have HN := Lib.hid hrv.n_eq
    have hn49 : n ≤ 49 := by rw [hrv.n_eq]; exact h49
    have HB1 := Lib.hid (hb1.alloc hb1.size (.cells #[.int .i64 g.n, .int .i64 (g.len 0), .slice (some ⟨gg, 0, none⟩) n cap, .int .i64 lv] 48))
    have HL := Lib.hid (shore_any g.n (g.len 0) gg cap n h71 h72 g.flat lv _ (hrv.keep ((Below.refl w1.heap.size w1).alloc (Nat.le_refl _) (.cells #[.int .i64 g.n, .int .i64 (g.len 0), .slice (some ⟨gg, 0, none⟩) n cap, .int .i64 lv] 48)) (Nat.le_refl _)))
    clear hrv hb1
    go_wp2_with fail
    refine HL.out.mono ?_
    rintro e w3 ⟨rfl, hb3⟩
    have HB3 := Lib.hid (HB1.out.trans (hb3.mono HB1.out.size))
    clear hb3
    go_wp2
    go_ret
    exact ⟨ret_int (by rw [HA.out, HN.out]), HB3.out⟩


end Go.Proofs.Ytmhcpjekpkdaeaa
