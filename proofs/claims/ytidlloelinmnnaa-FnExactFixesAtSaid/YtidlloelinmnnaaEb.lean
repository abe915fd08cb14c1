/- FixesRise: the model and the program. -/
import Derived.Test.YtidlloelinmnnaaEa
namespace Go.Proofs.Ytidlloelinmnnaa
open Go.RowKit Go.Shelf
set_option linter.unusedVariables false
set_option linter.unusedSimpArgs false
attribute [local go_sem] Oper.semAt_some

/-- the rises of corrections, summed -/
def riS : List Fx → Int
  | [] => 0
  | f :: l => riS l + (f.n - f.o)
theorem riS_app : ∀ (l m : List Fx), riS (l ++ m) = riS l + riS m
  | [], m => by simp [riS]
  | f :: l, m => by simp only [List.cons_append, riS, riS_app l m]; omega
theorem riS_snoc (l : List Fx) (f : Fx) : riS (l ++ [f]) = riS l + (f.n - f.o) := by rw [riS_app]; simp [riS]
def FIn (f : Fx) : Prop := (0 ≤ f.o ∧ f.o ≤ 99) ∧ 0 ≤ f.n ∧ f.n ≤ 99
theorem doOk_in {R C : Nat} : ∀ (L : List Fx) {h : Nat → Int}, DoOk R C h L → (∀ i, i < R * C → 0 ≤ h i ∧ h i ≤ 99) → ∀ f ∈ L, FIn f
  | [], _, _, _ => fun f hf => by cases hf
  | g :: l, h, k, hh => fun f hf => by
    rcases List.mem_cons.1 hf with rfl | hf
    · refine ⟨?_, k.1.2.2.1⟩
      rw [← k.1.2.1]
      exact hh _ k.1.lt
    · exact doOk_in l k.2 (put_range k.1 hh) f hf
theorem riS_range : ∀ (L : List Fx), (∀ f ∈ L, FIn f) → -99 * (L.length : Int) ≤ riS L ∧ riS L ≤ 99 * (L.length : Int)
  | [], _ => by simp [riS]
  | f :: l, h => by
    have h1 := riS_range l (fun g hg => h g (List.mem_cons_of_mem _ hg))
    have h2 := h f (by simp)
    obtain ⟨⟨a, b⟩, c, d⟩ := h2
    simp only [riS, List.length_cons]
    omega
theorem fxOk_in {g : G} {n : Nat} {Z : Nat → Int} (h : FxOk g n Z) : ∀ f ∈ fxF Z 0 n, FIn f := doOk_in _ h.2.2 (flat_range h.1)
noncomputable def riE (g : G) (n : Nat) (Z : Nat → Int) : Int := if fxB g n Z = true then riS (fxF Z 0 n) else 0
theorem riE_yes {g : G} {n : Nat} {Z : Nat → Int} (h : FxOk g n Z) : riE g n Z = riS (fxF Z 0 n) := by rw [riE, if_pos (fxB_yes h)]
theorem riE_no {g : G} {n : Nat} {Z : Nat → Int} (h : ¬ FxOk g n Z) : riE g n Z = 0 := by rw [riE, if_neg (by rw [fxB_no h]; simp)]
def IbxPost (a : Int) (b : Bool) (w : World) (e : Ending) (w' : World) : Prop := e = .returned (.tuple #[.int .i64 a, .bool b]) ∧ Below w.heap.size w w'

set_option maxRecDepth 20000 in
set_option maxHeartbeats 4000000 in
theorem specFixesRise_any (v u : Value) (lo hi n : Nat) (g : G) (Z : Nat → Int) (w : World) (hv : RdM lo hi w v g) (hu : RdT lo hi w u n Z) (hh : hi ≤ w.heap.size) (hn : n ≤ 1048576) :
    Calls Try.prog 54 #[v, u] w (IbxPost (riE g n Z) (fxB g n Z) w) := by
  have HV := Lib.hid (specFixesValid_any v u lo hi n g Z w hv hu hh hn)
  by_cases hok : FxOk g n Z
  case neg =>
    obtain ⟨au, cu, rfl⟩ := hu.shape
    have HX := Lib.hid (riE_no hok)
    have HY := Lib.hid (fxB_no hok)
    rw [fxB_no hok] at HV
    clear hv hu hok
    go_enter Try.func54, Try.ntmps54
    go_wp2_with fail
    refine HV.out.mono ?_
    rintro e w2 ⟨rfl, hb2⟩
    go_wp2
    go_ret2
    exact ⟨by rw [HX.out, HY.out]; rfl, hb2⟩
  have HX := Lib.hid (riE_yes hok)
  have HY := Lib.hid (fxB_yes hok)
  have HIN := Lib.hid (fxOk_in hok)
  have hn6 := hok.2.1
  rw [fxB_yes hok] at HV
  obtain ⟨ao, cap, b, off, rfl, h2, h3, h4, h5, h6⟩ := hu
  have H6 := Lib.hid h6
  clear hv h4 h6 hok
  go_enter Try.func54, Try.ntmps54
  go_wp2_with fail
  refine HV.out.mono ?_
  rintro e w2 ⟨rfl, hb2⟩
  have HB2 := Lib.hid hb2
  clear hb2
  go_wp2
  go_loopw [6, 7] (fun x i wr => ∃ k : Nat, k ≤ n ∧ i = .int .i64 k ∧ x = .int .i64 (riS (fxF Z 0 k)) ∧ Below w.heap.size w wr) (fun _ i => fun _ => n - (intOf i).toNat)
  case atStart => exact ⟨0, Nat.zero_le _, rfl, rfl, HB2.out⟩
  case round =>
    obtain ⟨k, hk, rfl, rfl, hbel⟩ := hrel
    have HB3 := Lib.hid hbel
    by_cases hlt : k < n
    · obtain ⟨rfl, _, _⟩ := h5 (by omega)
      have hlt' : (k : Int) < n := by omega
      obtain ⟨q0, q1, q2, q3⟩ := four_of (w := wr) (fun i hi => (hbel.cell (p := ⟨b, off + i, none⟩) (by show b < _; omega)).trans (H6.out i hi)) hlt
      have hfi := HIN.out (fxAt Z k) (by
        have := fxF_at Z n 0 k hlt
        rw [Nat.zero_add] at this
        exact List.mem_of_getElem? this)
      have hrg := riS_range (fxF Z 0 k) (fun f hf => HIN.out f (by
        rw [show n = k + (n - k) by omega, fxF_app]
        exact List.mem_append_left _ hf))
      rw [fxF_len] at hrg
      have HS := Lib.hid (show riS (fxF Z 0 (k + 1)) = riS (fxF Z 0 k) + Z (k * 4 + 3) - Z (k * 4 + 2) by rw [fxF_snoc, riS_snoc, Nat.zero_add]; simp only [fxAt]; omega)
      obtain ⟨⟨o0, o1⟩, n0, n1⟩ := hfi
      simp only [fxAt] at o0 o1 n0 n1
      obtain ⟨X, eX⟩ : ∃ X, riS (fxF Z 0 k) = X := ⟨_, rfl⟩
      obtain ⟨A, eA⟩ : ∃ A, Z (k * 4 + 3) = A := ⟨_, rfl⟩
      obtain ⟨B, eB⟩ : ∃ B, Z (k * 4 + 2) = B := ⟨_, rfl⟩
      rw [eX, eA, eB] at HS
      rw [eA] at q3 n0 n1
      rw [eB] at q2 o0 o1
      rw [eX] at hrg ⊢
      have hS1 : IntKind.i64.wrap (X + A) = X + A := IntWalk.i64_in _ (by omega)
      have hS2 : IntKind.i64.wrap (X + A - B) = X + A - B := IntWalk.i64_in _ (by omega)
      clear h5 hbel eX eA eB q0 q1 hrg
      go_wp2_with fail
      go_quiet (fail)
      clear hS1 hS2
      go_wp2
      go_roundw
      case rel => exact ⟨k + 1, by omega, by go_num, by rw [HS.out], below_drewN HB3.out _⟩
      case measure => simp [intOf]; omega
    · obtain rfl : k = n := by omega
      clear h5 hbel
      go_wp2
      go_ret2
      exact ⟨by rw [HX.out, HY.out]; rfl, HB3.out⟩

theorem kx_setBox {W : World} {b Bm : Nat} {t : TypeId} {v : Value} (q : Value) (h : W.heap[b]? = some (.cells #[v] t (0, 0))) (ht : t ≠ 96) (hne : Bm ≠ b) : Kx Bm W (W.setCell ⟨b, 0, none⟩ q) :=
  ⟨by simp [World.setCell], Below.heap_setCell _ _ _ _ (by simpa using hne), fun k u hk => (Below.heap_setCell _ _ _ _ (fun e => by
    have e' : k = b := by simpa using e
    subst e'
    rw [h] at hk
    simp only [Option.some.injEq, Obj.cells.injEq] at hk
    exact ht hk.2.1)).trans hk⟩
theorem ed_iface (g : G) (n0 g0 c0 n1 g1 c1 : Nat) (L : List Fx) : ∃ vt, edV g n0 g0 c0 n1 g1 c1 L = .agg #[.int .i64 g.n, .int .i64 (g.len 0), .slice (some ⟨g0, 0, none⟩) n0 c0, .int .i64 g.n, .int .i64 (g.len 0), .slice (some ⟨g1, 0, none⟩) n1 c1, .iface vt (dnR L)] ∧ ckV L = .iface vt (dnR L) := by
  obtain ⟨vt, e, _⟩ := dn_rest L
  exact ⟨vt, by rw [edV, e], e⟩

set_option maxRecDepth 100000 in
set_option maxHeartbeats 8000000 in
theorem implFixesRise_any (v u : Value) (lo hi n : Nat) (g : G) (Z : Nat → Int) (w : World) (hv : RdM lo hi w v g) (hu : RdT lo hi w u n Z) (hh : hi ≤ w.heap.size) (hn : n ≤ 1048576) :
    Calls Try.prog 44 #[v, u] w (IbxPost (riE g n Z) (fxB g n Z) w) := by
  have HE := Lib.hid (editionOf_any v u lo hi n g Z w hv hu hh hn)
  clear hv hu
  refine (callsIn_wide (n := 5)).1 ?_
  refine callsIn_of_wp_marks Try.func44 rfl trivial ?_ rfl
  simp only [Try.ntmps44, List.size_toArray, List.length_cons, List.length_nil, Nat.reduceAdd, Nat.reduceSub, Array.replicate_succ, Array.replicate_zero, List.push_toArray, List.append_toArray, List.nil_append, List.cons_append]
  gi_wp2_with fail
  refine ⟨trivial, ?_⟩
  refine (callsIn_wide.2 HE.out).mono ?_
  rintro e w2 ⟨hb2, hcase⟩
  rcases hcase with ⟨hok, n0, g0, c0, n1, g1, c1, rfl, hr0, hr1⟩ | ⟨hno, rfl⟩
  case inr =>
    have HX := Lib.hid (riE_no hno)
    have HY := Lib.hid (fxB_no hno)
    have HB3 := Lib.hid (hb2.alloc hb2.size (.cells #[.int .i64 0, .int .i64 0, .slice none 0 0, .int .i64 0, .int .i64 0, .slice none 0 0, .nilIface] 72))
    simp only [edZ]
    clear hno hb2
    gi_wp2
    exact ⟨_, results_tmp2 rfl _ _ _, by rw [HX.out, HY.out]; rfl, HB3.out⟩
  obtain ⟨L, eL⟩ : ∃ L, fxF Z 0 n = L := ⟨_, rfl⟩
  have HX := Lib.hid (riE_yes hok)
  have HY := Lib.hid (fxB_yes hok)
  have HIN := Lib.hid (fxOk_in hok)
  have hn6 := hok.2.1
  have hlen : L.length = n := by rw [← eL, fxF_len]
  rw [eL] at HX HIN
  obtain ⟨vt, eE, eV⟩ := ed_iface g n0 g0 c0 n1 g1 c1 L
  have HEF := Lib.hid (fun W : World => eachFix_any L W)
  rw [eL, eE]
  obtain ⟨W0, hW0, hs0, k0, k1, k2, kb⟩ := alloc3_all w2 (.cells #[.int .i64 g.n, .int .i64 (g.len 0), .slice (some ⟨g0, 0, none⟩) n0 c0, .int .i64 g.n, .int .i64 (g.len 0), .slice (some ⟨g1, 0, none⟩) n1 c1, .iface vt (dnR L)] 72) (.cells #[.int .i64 0] 3) (.cells #[.iface vt (dnR L)] 70)
  have hck : Ck W0 (w2.heap.size + 2) L := by unfold Ck; rw [eV]; exact k2
  rw [eV] at HEF
  have HB0 := Lib.hid (hb2.trans (kb.mono hb2.size))
  have hsz2 := hb2.size
  clear hok hr0 hr1 hb2 eE eV eL HE kb k2
  gi_wp2_with (refine ⟨trivial, ?_⟩; gi_at_call 71; refine (callsIn_wide.2 (HEF.out _)).mono ?_; rintro e w' ⟨rfl, rfl⟩)
  rw [← hW0]
  clear hW0
  refine wpIn_seqB (fx_seq 4 (by omega) (w2.heap.size + 1 + 1) L W0 hck) rfl (by omega) rfl trivial (enters_of Try.func100 (by kernel_rfl) rfl) Kx.trans (fun W l o o' hl ho hc => Kx.put W l o o' (by omega) ho hc) (fun X Y hX h => Kx.grown h (by omega))
    (fun X Y h => h.others) (Below.refl _ _) (fun _ => rfl)
    (fun pre W => W.heap[w2.heap.size + 1]? = some (.cells #[.int .i64 (riS pre)] 3 (0, 0)) ∧ Below w.heap.size w W)
    (OwnFrom.and (fun s X Y row hs hg hrow => (hg.block _ (lt_of_block hs) (fun e => by have := (hrow _ e.symm).1; omega)).trans hs) (ownFrom_below (Nat.le_refl _) (by omega)))
    (fun s X Y hs hT => by
      obtain ⟨q, rfl⟩ := hT
      exact ⟨(Below.heap_setCell _ _ _ _ (by simp)).trans hs.1, hs.2.setCell (p := ⟨w2.heap.size + 1 + 1, 0, none⟩) (by show w.heap.size ≤ w2.heap.size + 1 + 1; omega) q⟩)
    ⟨k1, HB0.out⟩
    (fun x W1 => { tmps := #[v, u, undef, undef, .int .i64 0, .bool false, .pointer (some ⟨w2.heap.size, 0, none⟩), .bool true, .pointer (some ⟨w2.heap.size + 1, 0, none⟩), .pointer (some ⟨W1.heap.size, 0, none⟩), .tuple #[.agg #[.int .i64 g.n, .int .i64 (g.len 0), .slice (some ⟨g0, 0, none⟩) n0 c0, .int .i64 g.n, .int .i64 (g.len 0), .slice (some ⟨g1, 0, none⟩) n1 c1, .iface vt (dnR L)], .bool true], v, u, .tuple #[.agg #[.int .i64 g.n, .int .i64 (g.len 0), .slice (some ⟨g0, 0, none⟩) n0 c0, .int .i64 g.n, .int .i64 (g.len 0), .slice (some ⟨g1, 0, none⟩) n1 c1, .iface vt (dnR L)], .bool true],
        .agg #[.int .i64 g.n, .int .i64 (g.len 0), .slice (some ⟨g0, 0, none⟩) n0 c0, .int .i64 g.n, .int .i64 (g.len 0), .slice (some ⟨g1, 0, none⟩) n1 c1, .iface vt (dnR L)], .bool true, .bool true, .bool false, .pointer (some ⟨w2.heap.size, 6, none⟩), .iface vt (dnR L), .func (.func 100) #[] #[.pointer (some ⟨w2.heap.size + 1 + 1, 0, none⟩)], fxV x, undef, undef, undef, undef, undef, undef, undef, undef], defers := [] })
    (fun x W1 W2 => W2.heap[W1.heap.size]? = some (.cells #[.int .i64 x.r, .int .i64 x.c, .int .i64 x.o, .int .i64 x.n] 63 (0, 0)))
    (fun x W1 W2 l o o' ho hc h => (World.putObj_heap_other (fun e => by subst e; rw [h] at ho; cases ho; cases hc)).trans h) ?assign ?body ?done
  case assign =>
    intro l x W K hK
    simp only [fxV]
    gi_wp2
    exact hK _ (World.grownBy_alloc W _ none) (heap_alloc_new W _)
  case body =>
    rintro l pre x W1 W ⟨hbx, hB⟩ hA hs1 hs2 hpx
    have hfi := HIN.out x (hpx.subset (by simp))
    have hrg := riS_range pre (fun f hf => HIN.out f (hpx.subset (List.mem_append_left _ hf)))
    have hpl := hpx.length_le
    simp only [List.length_append, List.length_cons, List.length_nil] at hpl
    have HS := Lib.hid (riS_snoc pre x)
    obtain ⟨⟨o0, o1⟩, m0, m1⟩ := hfi
    obtain ⟨q0, q1, q2, q3⟩ := cellsLb hA
    have hc := one_cellF hbx
    have hf : W.frozen? ⟨w2.heap.size + 1, 0, none⟩ = false := by simp [World.frozen?, hbx]
    have HKX := Lib.hid (fun q => kx_setBox (Bm := w2.heap.size + 1 + 1) q hbx (by decide) (by omega))
    have HST := Lib.hid (fun q => show (W.setCell ⟨w2.heap.size + 1, 0, none⟩ q).heap[w2.heap.size + 1]? = some (.cells #[q] 3 (0, 0)) by simpa using heap_setCell_same W (w2.heap.size + 1) 0 _ _ q hbx)
    have HB := Lib.hid hB
    obtain ⟨X, eX⟩ : ∃ X, riS pre = X := ⟨_, rfl⟩
    obtain ⟨A, eA⟩ : ∃ A, x.n = A := ⟨_, rfl⟩
    obtain ⟨O, eO⟩ : ∃ O, x.o = O := ⟨_, rfl⟩
    obtain ⟨R, eR⟩ : ∃ R, x.r = R := ⟨_, rfl⟩
    obtain ⟨C, eC⟩ : ∃ C, x.c = C := ⟨_, rfl⟩
    rw [eX, eA, eO] at HS
    rw [eA] at m0 m1
    rw [eO] at o0 o1
    rw [eX] at hc hrg
    simp only [fxV, eA, eO, eR, eC] at q0 q1 q2 q3 ⊢
    have hS1 : IntKind.i64.wrap (A - O) = A - O := IntWalk.i64_in _ (by omega)
    have hS2 : IntKind.i64.wrap (X + (A - O)) = X + (A - O) := IntWalk.i64_in _ (by omega)
    clear hA hbx hB eX eA eO eR eC hrg
    gi_wp2
    refine ⟨KeepsOthers.setCell _ _ _, HKX.out _, ?_, HB.out.setCell (p := ⟨w2.heap.size + 1, 0, none⟩) (by show w.heap.size ≤ w2.heap.size + 1; omega) _⟩
    rw [HS.out]
    first | exact HST.out _ | (simp only [hS1, hS2]; exact HST.out _)
  case done =>
    rintro D ys W hD rfl ⟨hbx, hB⟩ hK
    have hc := one_cellF hbx
    have HB := Lib.hid hB
    have HK := Lib.hid hK
    clear hbx hB hK
    gi_wp2
    refine ⟨by simp, .inl ⟨_, _, rfl, run_takeDeferred HK.out, ?_⟩⟩
    exact ⟨_, results_tmp2 rfl _ _ _, by rw [HX.out, HY.out]; rfl, HB.out.trans (belowK_b (w := w) (Nat.le_refl _) W D _ _ (by omega) HK.out rfl rfl)⟩

end Go.Proofs.Ytidlloelinmnnaa
