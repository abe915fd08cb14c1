/- FixesBack: the model and the program. -/
import Derived.Test.YtidlloelinmnnaaEg
namespace Go.Proofs.Ytidlloelinmnnaa
open Go.RowKit Go.Shelf
set_option linter.unusedVariables false
set_option linter.unusedSimpArgs false
attribute [local go_sem] Oper.semAt_some

/-- a correction taken back -/
def sw (f : Fx) : Fx := ⟨f.r, f.c, f.n, f.o⟩
def bkL (L : List Fx) : List Fx := (L.map sw).reverse
theorem bkL_snoc (L : List Fx) (f : Fx) : bkL (L ++ [f]) = sw f :: bkL L := by simp [bkL]
theorem bkL_cons (L : List Fx) (f : Fx) : bkL (f :: L) = bkL L ++ [sw f] := by simp [bkL]
theorem bkL_len (L : List Fx) : (bkL L).length = L.length := by simp [bkL]
noncomputable def bkE (g : G) (n : Nat) (Z : Nat → Int) : List Fx := if fxB g n Z = true then bkL (fxF Z 0 n) else []
theorem bkE_yes {g : G} {n : Nat} {Z : Nat → Int} (h : FxOk g n Z) : bkE g n Z = bkL (fxF Z 0 n) := by rw [bkE, if_pos (fxB_yes h)]
theorem bkE_no {g : G} {n : Nat} {Z : Nat → Int} (h : ¬ FxOk g n Z) : bkE g n Z = [] := by rw [bkE, if_neg (by rw [fxB_no h]; simp)]
theorem bkE_len (g : G) (n : Nat) (Z : Nat → Int) : (bkE g n Z).length ≤ 60 := by
  by_cases h : FxOk g n Z
  · rw [bkE_yes h, bkL_len, fxF_len]; exact h.2.1
  · rw [bkE_no h]; simp
theorem doOk_cells {R C : Nat} : ∀ (L : List Fx) {h : Nat → Int}, DoOk R C h L → ∀ f ∈ L, (0 ≤ f.r ∧ f.r < R) ∧ 0 ≤ f.c ∧ f.c < C
  | [], _, _ => fun f hf => by cases hf
  | g :: l, h, k => fun f hf => by
    rcases List.mem_cons.1 hf with rfl | hf
    · exact k.1.1
    · exact doOk_cells l k.2 f hf
theorem bkE_range (g : G) (n : Nat) (Z : Nat → Int) : ∀ j, j < (bkE g n Z).length * 4 → -9223372036854775808 ≤ fzZ (bkE g n Z) j ∧ fzZ (bkE g n Z) j ≤ 9223372036854775807 := by
  by_cases h : FxOk g n Z
  · rw [bkE_yes h]
    refine fxN_range fun f hf => ?_
    obtain ⟨f', hf', rfl⟩ := List.mem_map.1 (List.mem_reverse.1 hf)
    obtain ⟨⟨a, b⟩, c, d⟩ := fxOk_in h f' hf'
    obtain ⟨⟨p, q⟩, r, s⟩ := doOk_cells _ h.2.2 f' hf'
    have := h.1.1
    have := h.1.2.1
    exact ⟨by simp only [sw]; omega, by simp only [sw]; omega, by simp only [sw]; omega, by simp only [sw]; omega⟩
  · rw [bkE_no h]; intro j hj; simp at hj

set_option maxRecDepth 20000 in
set_option maxHeartbeats 8000000 in
theorem specFixesBack_any (v u : Value) (lo hi n : Nat) (g : G) (Z : Nat → Int) (w : World) (hv : RdM lo hi w v g) (hu : RdT lo hi w u n Z) (hh : hi ≤ w.heap.size) (hn : n ≤ 1048576) :
    Calls Try.prog 42 #[v, u] w (FsPost (fxB g n Z) (bkE g n Z) w) := by
  have HV := Lib.hid (fun (W : World) (hb : Below w.heap.size w W) => specFixesValid_any v u lo hi n g Z W (hv.same (SameIn.below hb hh)) (hu.same (SameIn.below hb hh)) (Nat.le_trans hh hb.size) hn)
  have HB0 := Lib.hid ((Below.refl w.heap.size w).alloc (Nat.le_refl _) (.cells #[] 63))
  have HL0 := Lib.hid (lf_lit w)
  obtain ⟨i0, hi0, hz0, hz1, hz2⟩ := info_parts Try.infoLb
  by_cases hok : FxOk g n Z
  case neg =>
    have HX := Lib.hid (bkE_no hok)
    rw [fxB_no hok] at HV ⊢
    obtain ⟨au, cu, rfl⟩ := hu.shape
    clear hok hv hu
    by_cases h0 : n = 0
    · subst h0
      go_enter Try.func42, Try.ntmps42
      go_wp2
      refine wp_loop_rounds 1 ?_
      rw [rounds_succ]
      go_wp2_with fail
      refine (HV.out _ HB0.out).mono ?_
      rintro e w2 ⟨rfl, hb2⟩
      go_wp2
      go_ret2
      refine ⟨.slice (some ⟨w.heap.size, 0, none⟩) 0 0, rfl, ⟨_, _, _, rfl⟩, ?_, HB0.out.trans (hb2.mono HB0.out.size)⟩
      rw [HX.out]; exact HL0.out.below hb2 (Nat.le_refl _)
    · have h1 : (0 : Int) ≤ (n : Int) - 1 := by omega
      have hS : IntKind.i64.wrap ((n : Int) - 1) = (n : Int) - 1 := IntWalk.i64_in _ (by omega)
      go_enter Try.func42, Try.ntmps42
      go_wp2
      refine wp_loop_rounds 1 ?_
      rw [rounds_succ]
      go_wp2_with fail
      refine (HV.out _ HB0.out).mono ?_
      rintro e w2 ⟨rfl, hb2⟩
      have HB2 := Lib.hid (HB0.out.trans (hb2.mono HB0.out.size))
      have HL2 := Lib.hid (HL0.out.below hb2 (Nat.le_refl _))
      clear hb2
      go_wp2_with fail
      refine (HV.out _ HB2.out).mono ?_
      rintro e w3 ⟨rfl, hb3⟩
      have HB3 := Lib.hid (HB2.out.trans (hb3.mono HB2.out.size))
      have HL3 := Lib.hid (HL2.out.below hb3 (Nat.le_refl _))
      clear hb3
      go_wp2
      go_ret2
      refine ⟨.slice (some ⟨w.heap.size, 0, none⟩) 0 0, rfl, ⟨_, _, _, rfl⟩, ?_, HB3.out⟩
      rw [HX.out]; exact HL3.out
  have HX := Lib.hid (bkE_yes hok)
  have hn6 := hok.2.1
  rw [fxB_yes hok] at HV ⊢
  obtain ⟨ao, cap, b, off, rfl, h2, h3, h4, h5, h6⟩ := hu
  have H6 := Lib.hid h6
  clear hv h4 h6 hok
  go_enter Try.func42, Try.ntmps42
  go_wp2
  go_loopw [6, 7] (fun o c wr => ∃ (k : Nat) (x : Value), k ≤ n ∧ c = .int .i64 ((k : Int) - 1) ∧ x = o ∧ Lf w.heap.size wr x (bkL (fxF Z k (n - k))) ∧ Below w.heap.size w wr) (fun _ c => fun _ => (intOf c + 1).toNat)
  case atStart => exact ⟨n, _, Nat.le_refl _, by go_num, rfl, by rw [Nat.sub_self]; exact HL0.out, HB0.out⟩
  case round =>
    obtain ⟨k, x, hk, rfl, rfl, hlf, hbel⟩ := hrel
    have HLF := Lib.hid hlf
    have HBL := Lib.hid hbel
    obtain ⟨uo, cu, hsl⟩ := hlf.shape
    cases k with
    | zero =>
      subst hsl
      clear hlf hbel
      go_wp2_with fail
      refine (HV.out _ HBL.out).mono ?_
      rintro e w3 ⟨rfl, hb3⟩
      have HB3 := Lib.hid (HBL.out.trans (hb3.mono HBL.out.size))
      have HL3 := Lib.hid (HLF.out.below hb3 (Nat.le_refl _))
      clear hb3
      go_wp2
      go_ret2
      refine ⟨.slice uo (bkL (fxF Z 0 n)).length cu, rfl, ⟨_, _, _, rfl⟩, ?_, HB3.out⟩
      rw [HX.out]
      have := HL3.out
      rw [Nat.sub_zero] at this
      exact this
    | succ k =>
      rw [show (((k + 1 : Nat) : Int) - 1) = (k : Int) by omega]
      have hlt : k < n := by omega
      have hlt' : (k : Int) < n := by omega
      obtain ⟨rfl, _, hbh⟩ := h5 (by omega)
      obtain ⟨LL, eLL⟩ : ∃ LL, bkL (fxF Z (k + 1) (n - (k + 1))) = LL := ⟨_, rfl⟩
      have hLL : LL.length ≤ 60 := by rw [← eLL, bkL_len, fxF_len]; omega
      have HNX := Lib.hid (show bkL (fxF Z k (n - k)) = LL ++ [sw (fxAt Z k)] by rw [← eLL, show n - k = (n - (k + 1)) + 1 by omega]; exact bkL_cons _ _)
      rw [eLL] at HLF hsl
      have HQ := Lib.hid (fun (W : World) (hb : Below w.heap.size w W) => four_of (w := W) (fun i hi => (hb.cell (p := ⟨b, off + i, none⟩) (by show b < _; omega)).trans (H6.out i hi)) hlt)
      obtain ⟨X0, e0⟩ : ∃ y, Z (k * 4) = y := ⟨_, rfl⟩
      obtain ⟨X1, e1⟩ : ∃ y, Z (k * 4 + 1) = y := ⟨_, rfl⟩
      obtain ⟨X2, e2⟩ : ∃ y, Z (k * 4 + 2) = y := ⟨_, rfl⟩
      obtain ⟨X3, e3⟩ : ∃ y, Z (k * 4 + 3) = y := ⟨_, rfl⟩
      simp only [sw, fxAt, e0, e1, e2, e3] at HNX HQ
      subst hsl
      clear hlf hbel eLL e0 e1 e2 e3 h5
      go_wp2_with fail
      refine (HV.out _ HBL.out).mono ?_
      rintro e w3 ⟨rfl, hb3⟩
      have HB3 := Lib.hid (HBL.out.trans (hb3.mono HBL.out.size))
      have HL3 := Lib.hid (HLF.out.below hb3 (Nat.le_refl _))
      obtain ⟨q0, q1, q2, q3⟩ := HQ.out _ HB3.out
      have HB4 := Lib.hid (HB3.out.alloc HB3.out.size (.cells #[.int .i64 X0, .int .i64 X1, .int .i64 X2, .int .i64 X3] 63))
      have HLN := Lib.hid (show (w3.alloc (.cells #[.int .i64 X0, .int .i64 X1, .int .i64 X2, .int .i64 X3] 63)).ownsRow w.heap.size 63 4 (.slice uo LL.length cu) LL.length (nsV (fxN LL)) from World.ownsRow.alloc HL3.out _)
      clear hb3
      go_wp2_with (first | (at_builtin; refine wpList_append_own _ rfl _ _ 30 rfl w.heap.size 63 i0 _ 4 32 Try.underlying30 hi0 hz0 hz1 hz2 rfl (by decide) _ LL.length (nsV (fxN LL)) rfl (HLN.out.alloc _) ⟨w3.heap.size + 1, 0, none⟩ 1 1 [.int .i64 X0, .int .i64 X1, .int .i64 X3, .int .i64 X2] rfl rfl (World.news_of_block (cs := #[.int .i64 X0, .int .i64 X1, .int .i64 X3, .int .i64 X2]) (t := 63) (fr := (0, 0)) (heap_alloc2_new w3 _ _)) (by simp [Value.oneCell']) (by unfold maxLen; omega) (by omega) (by have := HB3.out.size; simp; omega) ?_; intro v' w4 hown4 hg4 _; have HO4 := Lib.hid hown4; have HG4 := Lib.hid hg4; clear hown4 hg4))
      have HB5 := Lib.hid ((HB4.out.alloc HB4.out.size (.cells #[.int .i64 X0, .int .i64 X1, .int .i64 X3, .int .i64 X2] 63)).grown HG4.out (by have := HB3.out.size; simp; omega) (fun q hq => (HLN.out.lt q hq).1))
      have HL4 := Lib.hid (Lf.push HO4.out)
      go_wp2
      go_roundw
      case rel => exact ⟨k, _, by omega, by go_num, rfl, by rw [HNX.out]; exact HL4.out, HB5.out⟩
      case measure => simp [intOf]

theorem kx_below {W W' : World} {Bm : Nat} (h : Below W.heap.size W W') (hB : Bm < W.heap.size) : Kx Bm W W' := ⟨h.size, h.block _ hB, fun k u hk => (h.block k (lt_of_block hk)).trans hk⟩
theorem others_belowF {W W' : World} (h : Below W.heap.size W W') : KeepsOthers W W' := ⟨h.size, fun k o hk _ => (h.block k (Array.getElem?_eq_some_iff.1 hk).1).trans hk⟩
theorem back_any (r c o n : Int) (w : World) : Calls Try.prog 85 #[.agg #[.int .i64 r, .int .i64 c, .int .i64 o, .int .i64 n]] w (fun e w' => e = .returned (.agg #[.int .i64 r, .int .i64 c, .int .i64 n, .int .i64 o]) ∧ Below w.heap.size w w') := by
  have HE := Lib.hid (heap_alloc2_new w (.cells #[.int .i64 r, .int .i64 c, .int .i64 o, .int .i64 n] 63) (.cells #[.int .i64 r, .int .i64 c, .int .i64 n, .int .i64 o] 63))
  have HB := Lib.hid (show Below w.heap.size w ((w.alloc (.cells #[.int .i64 r, .int .i64 c, .int .i64 o, .int .i64 n] 63)).alloc (.cells #[.int .i64 r, .int .i64 c, .int .i64 n, .int .i64 o] 63)) from ((Below.refl _ _).alloc (Nat.le_refl _) _).alloc (by simp) _)
  go_enter Try.func85, Try.ntmps85
  go_wp2
  exact bodyPost_ret (results_cell_row rfl _ _ (w.heap.size + 1) _ #[.int .i64 r, .int .i64 c, .int .i64 n, .int .i64 o] _ _ rfl HE.out Try.underlying63 rfl Try.sizeLb) rfl ⟨rfl, HB.out⟩

set_option maxRecDepth 100000 in
set_option maxHeartbeats 8000000 in
theorem implFixesBack_any (v u : Value) (lo hi n : Nat) (g : G) (Z : Nat → Int) (w : World) (hv : RdM lo hi w v g) (hu : RdT lo hi w u n Z) (hh : hi ≤ w.heap.size) (hn : n ≤ 1048576) :
    Calls Try.prog 41 #[v, u] w (FsPost (fxB g n Z) (bkE g n Z) w) := by
  have HE := Lib.hid (editionOf_any v u lo hi n g Z w hv hu hh hn)
  clear hv hu
  refine (callsIn_wide (n := 5)).1 ?_
  refine callsIn_of_wp_marks Try.func41 rfl trivial ?_ rfl
  simp only [Try.ntmps41, List.size_toArray, List.length_cons, List.length_nil, Nat.reduceAdd, Nat.reduceSub, Array.replicate_succ, Array.replicate_zero, List.push_toArray, List.append_toArray, List.nil_append, List.cons_append]
  gi_wp2_with fail
  refine ⟨trivial, ?_⟩
  refine (callsIn_wide.2 HE.out).mono ?_
  rintro e w2 ⟨hb2, hcase⟩
  rcases hcase with ⟨hok, n0, g0, c0, n1, g1, c1, rfl, hr0, hr1⟩ | ⟨hno, rfl⟩
  case inr =>
    have HX := Lib.hid (bkE_no hno)
    have HY := Lib.hid (fxB_no hno)
    have HB3 := Lib.hid (hb2.alloc hb2.size (.cells #[.int .i64 0, .int .i64 0, .slice none 0 0, .int .i64 0, .int .i64 0, .slice none 0 0, .nilIface] 72))
    simp only [edZ]
    clear hno hb2
    gi_wp2
    refine ⟨_, results_tmp2 rfl _ _ _, .slice none 0 0, ?_, ⟨_, _, _, rfl⟩, ?_, HB3.out⟩
    · rw [HY.out]; rfl
    · rw [HX.out]; exact Lf.none _ _
  obtain ⟨L, eL⟩ : ∃ L, fxF Z 0 n = L := ⟨_, rfl⟩
  have HX := Lib.hid (bkE_yes hok)
  have HY := Lib.hid (fxB_yes hok)
  have hn6 := hok.2.1
  have hlen : L.length = n := by rw [← eL, fxF_len]
  rw [eL] at HX
  obtain ⟨vt, eE, eV⟩ := ed_iface g n0 g0 c0 n1 g1 c1 L
  have HEF := Lib.hid (fun W : World => eachFix_any L W)
  rw [eL, eE]
  obtain ⟨W0, hW0, hs0, k0, k1, k2, kb⟩ := alloc3_all w2 (.cells #[.int .i64 g.n, .int .i64 (g.len 0), .slice (some ⟨g0, 0, none⟩) n0 c0, .int .i64 g.n, .int .i64 (g.len 0), .slice (some ⟨g1, 0, none⟩) n1 c1, .iface vt (dnR L)] 72) (.cells #[.iface 93 (.agg #[])] 70) (.cells #[.iface vt (dnR L)] 70)
  have hck : Ck W0 (w2.heap.size + 2) L := by unfold Ck; rw [eV]; exact k2
  rw [eV] at HEF
  have HB0 := Lib.hid (hb2.trans (kb.mono hb2.size))
  have hsz2 := hb2.size
  clear hok hr0 hr1 hb2 eE eV eL HE kb k2
  gi_wp2_with (refine ⟨trivial, ?_⟩; gi_at_call 71; refine (callsIn_wide.2 (HEF.out _)).mono ?_; rintro e w' ⟨rfl, rfl⟩)
  rw [← hW0]
  clear hW0
  refine wpIn_seqB (fx_seq 4 (by omega) (w2.heap.size + 1 + 1) L W0 hck) rfl (by omega) rfl trivial (enters_of Try.func100 (by kernel_rfl) rfl) Kx.trans (fun W l o o' hl ho hc => Kx.put W l o o' (by omega) ho hc) (fun X Y hX h => Kx.grown h (by omega))
    (fun X Y h => h.others) (Below.refl _ _) (fun _ => rfl)
    (fun pre W => Ck W (w2.heap.size + 1) (bkL pre) ∧ Below w.heap.size w W)
    (OwnFrom.and (fun s X Y row hs hg hrow => (hg.block _ (lt_of_block hs) (fun e => by have := (hrow _ e.symm).1; omega)).trans hs) (ownFrom_below (Nat.le_refl _) (by omega)))
    (fun s X Y hs hT => by
      obtain ⟨q, rfl⟩ := hT
      exact ⟨(Below.heap_setCell _ _ _ _ (by simp)).trans hs.1, hs.2.setCell (p := ⟨w2.heap.size + 1 + 1, 0, none⟩) (by show w.heap.size ≤ w2.heap.size + 1 + 1; omega) q⟩)
    ⟨k1, HB0.out⟩
    (fun x W1 => { tmps := #[v, u, undef, undef, .slice none 0 0, .bool false, .pointer (some ⟨w2.heap.size, 0, none⟩), .bool true, .pointer (some ⟨w2.heap.size + 1, 0, none⟩), .pointer (some ⟨W1.heap.size, 0, none⟩), .tuple #[.agg #[.int .i64 g.n, .int .i64 (g.len 0), .slice (some ⟨g0, 0, none⟩) n0 c0, .int .i64 g.n, .int .i64 (g.len 0), .slice (some ⟨g1, 0, none⟩) n1 c1, .iface vt (dnR L)], .bool true], v, u, .tuple #[.agg #[.int .i64 g.n, .int .i64 (g.len 0), .slice (some ⟨g0, 0, none⟩) n0 c0, .int .i64 g.n, .int .i64 (g.len 0), .slice (some ⟨g1, 0, none⟩) n1 c1, .iface vt (dnR L)], .bool true],
        .agg #[.int .i64 g.n, .int .i64 (g.len 0), .slice (some ⟨g0, 0, none⟩) n0 c0, .int .i64 g.n, .int .i64 (g.len 0), .slice (some ⟨g1, 0, none⟩) n1 c1, .iface vt (dnR L)], .bool true, .bool true, .bool false, .agg #[], .iface 93 (.agg #[]), .pointer (some ⟨w2.heap.size, 6, none⟩), .iface vt (dnR L), .func (.func 100) #[] #[.pointer (some ⟨w2.heap.size + 1 + 1, 0, none⟩)], fxV x, undef, undef, undef, undef, undef, undef, undef], defers := [] })
    (fun x W1 W2 => W2.heap[W1.heap.size]? = some (.cells #[.int .i64 x.r, .int .i64 x.c, .int .i64 x.o, .int .i64 x.n] 63 (0, 0)) ∧ W1.heap.size < W2.heap.size)
    (fun x W1 W2 l o o' ho hc h => ⟨(World.putObj_heap_other (fun e => by subst e; rw [h.1] at ho; cases ho; cases hc)).trans h.1, by rw [World.putObj_size]; exact h.2⟩) ?assign ?body ?done
  case assign =>
    intro l x W K hK
    simp only [fxV]
    gi_wp2
    exact hK _ (World.grownBy_alloc W _ none) ⟨heap_alloc_new W _, by simp⟩
  case body =>
    rintro l pre x W1 W ⟨hck, hB⟩ ⟨hA, hA2⟩ hs1 hs2 hpx
    obtain ⟨q0, q1, q2, q3⟩ := cellsLb hA
    obtain ⟨pt, pu, eP⟩ := ckV_iface (bkL pre)
    have HEP := Lib.hid eP
    have HCK := Lib.hid hck
    have hltc := lt_of_block hck
    have hB' := hB.size
    have HB := Lib.hid hB
    have HAA := Lib.hid hA
    have HN := Lib.hid (show ckV (bkL (pre ++ [x])) = .iface 96 (.agg #[.int .i64 x.r, .int .i64 x.c, .int .i64 x.n, .int .i64 x.o, .iface pt pu]) by rw [bkL_snoc, ← eP]; rfl)
    have d1 : W.cell? ⟨w2.heap.size + 1, 0, none⟩ = some (.iface pt pu) := by rw [← eP]; exact one_cellF hck
    obtain ⟨r0, er0⟩ : ∃ y, x.r = y := ⟨_, rfl⟩
    obtain ⟨c0', ec0⟩ : ∃ y, x.c = y := ⟨_, rfl⟩
    obtain ⟨o0, eo0⟩ : ∃ y, x.o = y := ⟨_, rfl⟩
    obtain ⟨m0, em0⟩ : ∃ y, x.n = y := ⟨_, rfl⟩
    rw [er0, ec0, eo0, em0] at HN
    simp only [fxV, er0, ec0, eo0, em0] at q0 q1 q2 q3 ⊢
    have HS := Lib.hid (fun (V : World) (hb : Below W.heap.size W V) => show V.cell? ⟨W1.heap.size, 0, none⟩ = some (.int .i64 r0) ∧ V.cell? ⟨W1.heap.size, 1, none⟩ = some (.int .i64 c0') ∧ V.cell? ⟨W1.heap.size, 2, none⟩ = some (.int .i64 o0) ∧ V.cell? ⟨W1.heap.size, 3, none⟩ = some (.int .i64 m0) from ⟨(hb.cell (p := ⟨W1.heap.size, 0, none⟩) (by show W1.heap.size < _; omega)).trans q0, (hb.cell (p := ⟨W1.heap.size, 1, none⟩) (by show W1.heap.size < _; omega)).trans q1, (hb.cell (p := ⟨W1.heap.size, 2, none⟩) (by show W1.heap.size < _; omega)).trans q2, (hb.cell (p := ⟨W1.heap.size, 3, none⟩) (by show W1.heap.size < _; omega)).trans q3⟩)
    clear hA hck hB eP er0 ec0 eo0 em0
    gi_wp2_with fail
    refine held_round (S := (fun w' => w'.cell? ⟨W1.heap.size, 0, none⟩ = some (.int .i64 r0) ∧ w'.cell? ⟨W1.heap.size, 1, none⟩ = some (.int .i64 c0') ∧ w'.cell? ⟨W1.heap.size, 2, none⟩ = some (.int .i64 o0) ∧ w'.cell? ⟨W1.heap.size, 3, none⟩ = some (.int .i64 m0))) (by kernel_rfl) (by kernel_rfl) (by rintro ⟨a, w, h⟩; exact h) ?_ (fun hHeld => ?_)
    · exact HS.out _ (below_un (Below.refl _ _))
    refine wpAnyH_take (i := 0) (v := ?_) (by simp only [List.getElem?_toArray, List.getElem?_cons_succ, List.getElem?_cons_zero]; exact rfl) (by kernel_rfl) (by kernel_rfl) (by kernel_rfl) (by exact fun _ _ _ h => h) (Or.inl ⟨by rfl, ?_⟩) (by assumption) ?_
    rotate_left
    · intro w hSw; (try dsimp only at hSw); go_simp; try with_reducible rfl
    try simp only [Act.put, List.setIfInBounds_toArray, List.set_cons_zero, List.set_cons_succ]
    refine wpAnyH_ready (rs := [1, 2]) (by kernel_rfl) (by simp) ?_
    refine AllReadyH.cons (by simp only [List.getElem?_toArray, List.getElem?_cons_succ, List.getElem?_cons_zero]; exact rfl) (fun K hK => ?_) (AllReadyH.cons (by simp only [List.getElem?_toArray, List.getElem?_cons_succ, List.getElem?_cons_zero]; exact rfl) (fun K hK => ?_) AllReadyH.nil)
    · go_simp
      refine (back_any _ _ _ _ _).mono ?_
      rintro e w4 ⟨rfl, hb4⟩
      have X4 := Lib.hid (show Below W.heap.size W w4 from hb4.undrew)
      have HCK4 := Lib.hid (show Ck w4 (w2.heap.size + 1) (bkL pre) from (X4.out.block _ hltc).trans HCK.out)
      have e1 : w4.cell? ⟨w2.heap.size + 1, 0, none⟩ = some (.iface pt pu) := by rw [← HEP.out]; exact one_cellF HCK4.out
      have e0 : w4.frozen? ⟨w2.heap.size + 1, 0, none⟩ = false := by simp [World.frozen?, show w4.heap[w2.heap.size + 1]? = _ from HCK4.out]
      clear hb4
      go_wp2_with fail
      refine hK.out _ _ ?_ (fun hHeld2 => ?_)
      · exact HS.out _ X4.out
      clear hK K
      try simp only [Act.put, List.setIfInBounds_toArray, List.set_cons_zero, List.set_cons_succ]
      refine wpAnyH_ready (rs := [2]) (by kernel_rfl) (by simp) ?_
      refine AllReadyH.cons (by simp only [List.getElem?_toArray, List.getElem?_cons_succ, List.getElem?_cons_zero]; exact rfl) (fun K hK => ?_) AllReadyH.nil
      go_simp
      refine hK.out _ _ ?_ (fun hHeld5 => ?_)
      · exact HS.out _ X4.out
      clear hK K
      try simp only [Act.put, List.setIfInBounds_toArray, List.set_cons_zero, List.set_cons_succ]
      refine wpAnyH_take (i := 3) (v := ?_) (by simp only [List.getElem?_toArray, List.getElem?_cons_succ, List.getElem?_cons_zero]; exact rfl) (by kernel_rfl) (by kernel_rfl) (by kernel_rfl) (by exact fun _ _ _ h => h) (Or.inl ⟨by rfl, ?_⟩) (by assumption) ?_
      rotate_left
      · intro w hSw; (try dsimp only at hSw); go_simp; try with_reducible rfl
      try simp only [Act.put, List.setIfInBounds_toArray, List.set_cons_zero, List.set_cons_succ]
      refine wpAnyH_take (i := 4) (v := ?_) (by simp only [List.getElem?_toArray, List.getElem?_cons_succ, List.getElem?_cons_zero]; exact rfl) (by kernel_rfl) (by kernel_rfl) (by kernel_rfl) (by exact fun _ _ _ h => h) (Or.inl ⟨by rfl, ?_⟩) (by assumption) ?_
      rotate_left
      · intro w hSw; (try dsimp only at hSw); go_simp; try with_reducible rfl
      try simp only [Act.put, List.setIfInBounds_toArray, List.set_cons_zero, List.set_cons_succ]
      refine wpAnyH_ready (rs := [5]) (by kernel_rfl) (by simp) ?_
      refine AllReadyH.cons (by simp only [List.getElem?_toArray, List.getElem?_cons_succ, List.getElem?_cons_zero]; exact rfl) (fun K hK => ?_) AllReadyH.nil
      go_simp
      refine hK.out _ _ ?_ (fun hHeld3 => ?_)
      · obtain ⟨h0, h1, h2, h3⟩ := HS.out _ X4.out
        have hf : ∀ (k : Nat) (u : Value), (w4.setCell ⟨w2.heap.size + 1, 0, none⟩ u).cell? ⟨W1.heap.size, k, none⟩ = w4.cell? ⟨W1.heap.size, k, none⟩ := fun k u => World.cell?_setCell_far _ _ _ _ (by show w2.heap.size + 1 ≠ W1.heap.size; omega)
        exact ⟨(hf _ _).trans h0, (hf _ _).trans h1, (hf _ _).trans h2, (hf _ _).trans h3⟩
      clear hK K
      try simp only [Act.put, List.setIfInBounds_toArray, List.set_cons_zero, List.set_cons_succ]
      refine wpAnyH_done (by kernel_rfl) ?_ _
      refine ⟨?_, ?_, ?_, ?_⟩
      · exact ((others_belowF X4.out).trans (KeepsOthers.setCell _ ⟨w2.heap.size + 1, 0, none⟩ _))
      · exact Kx.trans (kx_below X4.out (by omega)) (kx_setBox _ (show w4.heap[w2.heap.size + 1]? = _ from HCK4.out) (by decide) (by omega))
      · have HS2 := HCK4.out.set (bkL (pre ++ [x]))
        unfold Ck at HS2 ⊢
        rw [HN.out] at HS2 ⊢
        exact HS2
      · exact (HB.out.trans (X4.out.mono hB')).setCell (p := ⟨w2.heap.size + 1, 0, none⟩) (by show w.heap.size ≤ w2.heap.size + 1; omega) _
    · go_simp
      refine hK.out _ _ ?_ (fun hHeld5 => ?_)
      · exact HS.out _ (below_un (Below.refl _ _))
      clear hK K
      try simp only [Act.put, List.setIfInBounds_toArray, List.set_cons_zero, List.set_cons_succ]
      refine wpAnyH_ready (rs := [1]) (by kernel_rfl) (by simp) ?_
      refine AllReadyH.cons (by simp only [List.getElem?_toArray, List.getElem?_cons_succ, List.getElem?_cons_zero]; exact rfl) (fun K hK => ?_) AllReadyH.nil
      go_simp
      refine (back_any _ _ _ _ _).mono ?_
      rintro e w4 ⟨rfl, hb4⟩
      have X4 := Lib.hid (show Below W.heap.size W w4 from hb4.undrew)
      have HCK4 := Lib.hid (show Ck w4 (w2.heap.size + 1) (bkL pre) from (X4.out.block _ hltc).trans HCK.out)
      have e1 : w4.cell? ⟨w2.heap.size + 1, 0, none⟩ = some (.iface pt pu) := by rw [← HEP.out]; exact one_cellF HCK4.out
      have e0 : w4.frozen? ⟨w2.heap.size + 1, 0, none⟩ = false := by simp [World.frozen?, show w4.heap[w2.heap.size + 1]? = _ from HCK4.out]
      clear hb4
      go_wp2_with fail
      refine hK.out _ _ ?_ (fun hHeld2 => ?_)
      · exact HS.out _ X4.out
      clear hK K
      try simp only [Act.put, List.setIfInBounds_toArray, List.set_cons_zero, List.set_cons_succ]
      refine wpAnyH_take (i := 3) (v := ?_) (by simp only [List.getElem?_toArray, List.getElem?_cons_succ, List.getElem?_cons_zero]; exact rfl) (by kernel_rfl) (by kernel_rfl) (by kernel_rfl) (by exact fun _ _ _ h => h) (Or.inl ⟨by rfl, ?_⟩) (by assumption) ?_
      rotate_left
      · intro w hSw; (try dsimp only at hSw); go_simp; try with_reducible rfl
      try simp only [Act.put, List.setIfInBounds_toArray, List.set_cons_zero, List.set_cons_succ]
      refine wpAnyH_take (i := 4) (v := ?_) (by simp only [List.getElem?_toArray, List.getElem?_cons_succ, List.getElem?_cons_zero]; exact rfl) (by kernel_rfl) (by kernel_rfl) (by kernel_rfl) (by exact fun _ _ _ h => h) (Or.inl ⟨by rfl, ?_⟩) (by assumption) ?_
      rotate_left
      · intro w hSw; (try dsimp only at hSw); go_simp; try with_reducible rfl
      try simp only [Act.put, List.setIfInBounds_toArray, List.set_cons_zero, List.set_cons_succ]
      refine wpAnyH_ready (rs := [5]) (by kernel_rfl) (by simp) ?_
      refine AllReadyH.cons (by simp only [List.getElem?_toArray, List.getElem?_cons_succ, List.getElem?_cons_zero]; exact rfl) (fun K hK => ?_) AllReadyH.nil
      go_simp
      refine hK.out _ _ ?_ (fun hHeld3 => ?_)
      · obtain ⟨h0, h1, h2, h3⟩ := HS.out _ X4.out
        have hf : ∀ (k : Nat) (u : Value), (w4.setCell ⟨w2.heap.size + 1, 0, none⟩ u).cell? ⟨W1.heap.size, k, none⟩ = w4.cell? ⟨W1.heap.size, k, none⟩ := fun k u => World.cell?_setCell_far _ _ _ _ (by show w2.heap.size + 1 ≠ W1.heap.size; omega)
        exact ⟨(hf _ _).trans h0, (hf _ _).trans h1, (hf _ _).trans h2, (hf _ _).trans h3⟩
      clear hK K
      try simp only [Act.put, List.setIfInBounds_toArray, List.set_cons_zero, List.set_cons_succ]
      refine wpAnyH_done (by kernel_rfl) ?_ _
      refine ⟨?_, ?_, ?_, ?_⟩
      · exact ((others_belowF X4.out).trans (KeepsOthers.setCell _ ⟨w2.heap.size + 1, 0, none⟩ _))
      · exact Kx.trans (kx_below X4.out (by omega)) (kx_setBox _ (show w4.heap[w2.heap.size + 1]? = _ from HCK4.out) (by decide) (by omega))
      · have HS2 := HCK4.out.set (bkL (pre ++ [x]))
        unfold Ck at HS2 ⊢
        rw [HN.out] at HS2 ⊢
        exact HS2
      · exact (HB.out.trans (X4.out.mono hB')).setCell (p := ⟨w2.heap.size + 1, 0, none⟩) (by show w.heap.size ≤ w2.heap.size + 1; omega) _
  case done =>
    rintro D ys W hD rfl ⟨hck, hB⟩ hK
    obtain ⟨pt, pu, eP⟩ := ckV_iface (bkL ys)
    have d1 : W.cell? ⟨w2.heap.size + 1, 0, none⟩ = some (.iface pt pu) := by rw [← eP]; exact one_cellF hck
    have HF := Lib.hid (fixesOf_any (bkL ys) W (by rw [bkL_len]; omega))
    rw [eP] at HF
    have HB := Lib.hid hB
    have HK := Lib.hid hK
    have hsW := hB.size
    have hDlt := (Array.getElem?_eq_some_iff.1 hK).1
    clear hck hB hK eP
    gi_wp2_with fail
    refine ⟨trivial, ?_⟩
    refine (callsIn_wide.2 HF.out).mono ?_
    rintro e w5 ⟨v5, rfl, ⟨sa, sl, sc, rfl⟩, hl5, hb5⟩
    have HK5 := Lib.hid ((hb5.block D hDlt).trans HK.out)
    have HL5 := Lib.hid hl5
    have HB5 := Lib.hid (HB.out.trans (hb5.mono hsW))
    clear hb5 hl5
    gi_wp2
    refine ⟨by simp, .inl ⟨_, _, rfl, run_takeDeferred HK5.out, ?_⟩⟩
    refine ⟨_, results_tmp2 rfl _ _ _, .slice sa sl sc, ?_, ⟨_, _, _, rfl⟩, ?_, HB5.out.trans (belowK_b (w := w) (Nat.le_refl _) w5 D _ _ (by omega) HK5.out rfl rfl)⟩
    · rw [HY.out]; rfl
    · rw [HX.out]; exact ownsRow_putObj (ownsRow_base HL5.out hsW) _ HK5.out rfl

end Go.Proofs.Ytidlloelinmnnaa
