/- The program's iterator over the passes, walked. -/
import Derived.Test.YtlbdglhippapnabPsI
import Derived.Test.YtlbdglhippapnabRgM2
import Derived.Sort.LoopGhostIn
import Derived.Test.YtlbdglhippapnabLvI2
namespace Go.Proofs.Ytlbdglhippapnab
open Go.RowKit Go.Shelf
set_option linter.unusedVariables false
attribute [local go_sem] Oper.semAt_some

/-- all cells are listed -/
def AllIn {M : Nat} (L : List (Ix M × Int)) : Prop := ∀ x, x ∈ L.map Prod.fst
def psEnc {R C : Nat} (Z : Nat → Int) (x : Ix (R * C) × Int) : Array Value := #[.agg #[.int .i64 (Z x.1.1), .int .i64 x.1.1], .int .i64 x.2]
theorem Try.infoB : (Try.prog.info? 4).map (fun i => (i.zero, i.size, i.bytes)) = some (some (.bool false), 1, 1) := by kernel_rfl

theorem wpIn_loop_gk {F : Fence} {rm : Nat} {P : Program} {Q : Exit → Act → World → Prop} {a : Act} {w : World} {c : Code} (I : Nat → Act → World → Prop) (n₀ : Nat) (h₀ : I n₀ a w)
    (round : ∀ n a w, I n a w → ∀ K : Act → World → Prop, (∀ n' a' w', n' < n → I n' a' w' → K a' w') → c.wpIn F rm P (Exit.then K Q) a w) : (Code.loop c).wpIn F rm P Q a w :=
  wpIn_loop_ghost I n₀ h₀ fun n a w h => round n a w h _ fun n' _ _ x y => ⟨n', x, y⟩

set_option maxRecDepth 100000 in
set_option maxHeartbeats 20000000 in
theorem passes_stop (n : Nat) (hn : 4 ≤ n) (Bm Bi R C gg cap cnt : Nat) (hR : R ≤ 7) (hC : C ≤ 7) (Z : Nat → Int) (hZ : ∀ x, x < R * C → 0 ≤ Z x ∧ Z x ≤ 99) (st : Ix (R * C)) (w : World) (hBm : Bm < w.heap.size) (hBi : Bi < w.heap.size)
    (hlay : w.heap[Bm]? = some (.cells #[.int .i64 R, .int .i64 C, .slice (some ⟨gg, 0, none⟩) cnt cap] 38 (0, 0))) (hbi : w.cell? ⟨Bi, 0, none⟩ = some (.int .i64 st.1)) (hrv : Rv w R C cnt gg cap Z) :
    StopSeq Fence.wide n Try.prog 80 #[.pointer (some ⟨Bm, 0, none⟩), .pointer (some ⟨Bi, 0, none⟩)] (psEnc Z) (KqP Bm gg) (fun ys => Vis R C Z st ys ∧ AllIn ys) (Vis R C Z st) (R * C) w := by
  intro l J Jx W hW hJ hJx hY h0
  have HJ := Lib.hid @hJ
  have HJX := Lib.hid @hJx
  have HJ0 := Lib.hid h0
  have HY := Lib.hid hY
  have hcn := hrv.n_eq
  have h49 := mul_le_49 hR hC
  have hcn49 : cnt ≤ 49 := by omega
  have HCN := Lib.hid hcn
  have hgg : gg < w.heap.size := hrv.lt
  have hcap : cnt ≤ cap := hrv.le
  have hsW := hW.size
  have HLAY := Lib.hid ((hW.block Bm hBm).trans hlay)
  have HRV := Lib.hid (hrv.keep hW (Nat.le_refl _))
  have HBI := Lib.hid ((hW.cell (p := ⟨Bi, 0, none⟩) hBi).trans hbi)
  have HZ := Lib.hid hZ
  have hBW : Bm < W.heap.size := Nat.lt_of_lt_of_le hBm hsW
  have hgW : gg < W.heap.size := Nat.lt_of_lt_of_le hgg hsW
  have hBiW : Bi < W.heap.size := Nat.lt_of_lt_of_le hBi hsW
  clear hJ hJx h0 hY hcn hrv hlay hW hbi hZ
  have hst : st.1 < cnt := by rw [HCN.out]; exact st.2
  have hmk := run_make_row' (P := Try.prog) 75 4 (.bool false) 1 Try.underlying75 Try.infoB rfl .i64 .i64 cnt (by omega) (by omega)
  refine callsIn_of_wp_marks Try.func80 rfl trivial ?_ rfl
  simp only [Try.ntmps80, List.size_toArray, List.length_cons, List.length_nil, Nat.reduceAdd, Nat.reduceSub, Array.replicate_succ, Array.replicate_zero, List.push_toArray, List.append_toArray, List.nil_append, List.cons_append]
  obtain ⟨a0, a1, a2, _, _, _⟩ := cells3 HLAY.out
  have a3 := HBI.out
  have hb3 : Below W.heap.size W (((W.alloc (.cells #[.slice none 0 0] 56)).alloc (.cells (madeCells #[.bool false] cnt) 4)).alloc (.cells #[.slice (some ⟨W.heap.size + 1, 0, none⟩) cnt cnt] 75)) := (((Below.refl _ W).alloc (Nat.le_refl _) _).alloc (by simp) _).alloc (by simp; omega) _
  obtain ⟨k1, k2, k3, ksz, _⟩ := three_allocs W (.cells #[.slice none 0 0] 56) (.cells (madeCells #[.bool false] cnt) 4) (.cells #[.slice (some ⟨W.heap.size + 1, 0, none⟩) cnt cnt] 75)
  have hrow := ((World.rowIs_made (W.alloc (.cells #[.slice none 0 0] 56)) (.bool false) cnt 4).alloc (.cells #[.slice (some ⟨W.heap.size + 1, 0, none⟩) cnt cnt] 75)).congr (g := fun _ => .bool false) (fun j _ => rfl)
  rw [World.size_alloc] at hrow
  have b0 := (hb3.cell (p := ⟨Bm, 0, none⟩) hBW).trans a0
  have b1 := (hb3.cell (p := ⟨Bm, 1, none⟩) hBW).trans a1
  have b2 := (hb3.cell (p := ⟨Bm, 2, none⟩) hBW).trans a2
  have b3 := (hb3.cell (p := ⟨Bi, 0, none⟩) hBiW).trans a3
  have HB3 := Lib.hid hb3
  have HK1 := Lib.hid k1
  have HK3 := Lib.hid k3
  have HROW := Lib.hid hrow
  have HSZ3 := Lib.hid ksz
  have HSP := Lib.hid (spot_any R C gg cap cnt Z st.1 _ (HRV.out.keep hb3 (Nat.le_refl _)) hst (by omega))
  clear hb3 k1 k2 k3 hrow ksz
  obtain ⟨x0, ex0⟩ : ∃ x, st.1 = x := ⟨_, rfl⟩
  have HX0 := Lib.hid ex0
  rw [ex0] at HSP b3 hst
  obtain ⟨z0, ez0⟩ : ∃ z, Z x0 = z := ⟨_, rfl⟩
  have HZ0 := Lib.hid ez0
  rw [ez0] at HSP
  clear ex0 ez0
  gi_wp2_with fail
  refine ⟨trivial, (fun _ => by omega), ?_⟩
  gi_at_call 63
  refine (callsIn_wide.2 HSP.out).mono ?_
  rintro e w4 ⟨rfl, hb4⟩
  have HB4 := Lib.hid (HB3.out.trans (hb4.mono HB3.out.size))
  have HP4 := Lib.hid (show HpW w4 W.heap.size none Z (fun x => x) 0 from ⟨_, (hb4.block _ (by rw [HSZ3.out]; omega)).trans HK1.out, Or.inl ⟨rfl, rfl, rfl⟩⟩)
  have HX4 := Lib.hid ((hb4.block _ (by rw [HSZ3.out]; omega)).trans HK3.out)
  have HR4 := Lib.hid (HROW.out.of_block (hb4.block _ (by rw [HSZ3.out]; omega)))
  have hs4 : W.heap.size + 3 ≤ w4.heap.size := by have := hb4.size; rw [HSZ3.out] at this; exact this
  clear hb4 b0 b1 b2 b3 a0 a1 a2 a3 HSP
  gi_wp2_with fail
  refine ⟨trivial, (fun _ => by omega), ?_⟩
  gi_at_call 62
  rw [← HZ0.out]
  refine (callsIn_wide.2 (push_any W.heap.size none Z (fun x => x) 0 x0 (fun _ => False) w4 HP4.out ⟨fun k h1 h2 => by omega, fun i j h1 => by omega, fun x => ⟨fun h => h.elim, fun ⟨k, h, _⟩ => by omega⟩⟩ (fun h => h) (by omega) (by omega))).mono ?_
  rintro e w5 ⟨⟨v5, rfl⟩, f5, ob5, hp5, hs5, hn5, hf5⟩
  have hz5 := hf5.size
  have HB5 := Lib.hid (HB4.out.trans (hf5.below (B := W.heap.size) (by omega) (Nat.le_refl _) (fun b e => by cases e)))
  have hob5 : ∀ b, ob5 = some b → w4.heap.size ≤ b := fun b e => by
    rcases hn5 with e2 | ⟨b', e2, hb'⟩
    · rw [e2] at e; cases e
    · rw [e2] at e; simp only [Option.some.injEq] at e; omega
  have HX5 := Lib.hid ((hf5.block (W.heap.size + 1 + 1) (by omega) (by omega) (fun e => by cases e)).trans HX4.out)
  have HR5 := Lib.hid (HR4.out.of_block (hf5.block (W.heap.size + 1) (by omega) (by omega) (fun e => by cases e)))
  have HP5 := Lib.hid hp5
  have HS5 := Lib.hid hs5
  have HOB5 := Lib.hid hob5
  clear hp5 hs5 hn5 hf5 hob5
  have c0 := one_cell HX5.out
  have c1 : w5.cell? ⟨Bi, 0, none⟩ = some (.int .i64 x0) := by rw [← HX0.out]; exact (HB5.out.cell (p := ⟨Bi, 0, none⟩) hBiW).trans HBI.out
  have c2 : w5.cell? ⟨W.heap.size + 1, x0, none⟩ = some (.bool false) := HR5.out.cell hst
  have c3 : w5.frozen? ⟨W.heap.size + 1, x0, none⟩ = false := HR5.out.frozen x0
  have hst' : (x0 : Int) < cnt := by omega
  have HM6 := Lib.hid (show PzM W (w5.setCell ⟨W.heap.size + 1, x0, none⟩ (.bool true)) Bm R C cnt gg cap W.heap.size (W.heap.size + 1) (W.heap.size + 1 + 1) Z (fun y => False ∨ y = x0) (fun x => x ∈ ([] : List (Ix (R * C) × Int)).map Prod.fst ∨ (False ∨ x.1 = x0)) (0 + 1) f5 ob5 (fun k => if k = x0 then true else false) from by
    have blk : ∀ k, k ≠ W.heap.size + 1 → (w5.setCell ⟨W.heap.size + 1, x0, none⟩ (.bool true)).heap[k]? = w5.heap[k]? := fun k hk => Below.heap_setCell _ _ _ _ hk
    have hf := HP5.out.far
    refine ⟨HP5.out.keep (blk _ (by omega)) (fun b e => blk b (by have := HOB5.out b e; omega)), HS5.out, by have := HCN.out; omega, (HR5.out.set x0 (.bool true)).congr (fun j _ => ?_), fun x => ?_, (blk _ (by omega)).trans HX5.out, (blk _ (by omega)).trans ((HB5.out.block _ hBW).trans HLAY.out), ?_, ⟨hBW, hgW⟩, ⟨Nat.le_refl _, by omega, by omega, by omega, by omega, by omega, fun b e => by have := HOB5.out b e; omega⟩, by simp [World.setCell]; omega⟩
    · by_cases e : j = x0 <;> simp [e]
    · by_cases e : x.1 = x0 <;> simp [e]
    · exact HRV.out.keep (HB5.out.setCell (p := ⟨W.heap.size + 1, x0, none⟩) (show W.heap.size ≤ W.heap.size + 1 by omega) _) (Nat.le_refl _))
  have HB6 := Lib.hid (HB5.out.setCell (p := ⟨W.heap.size + 1, x0, none⟩) (show W.heap.size ≤ W.heap.size + 1 by omega) (.bool true))
  have HPS6 := Lib.hid (show PsI R C Z st [] (fun y => False ∨ y = x0) 99 (fun _ _ => False) from by
    have := PsI.start st HZ.out
    rw [HX0.out] at this
    have e : (fun y => False ∨ y = x0) = (fun y => y = x0) := funext fun y => propext ⟨fun h => h.resolve_left (fun k => k), Or.inr⟩
    rw [e]
    exact this)
  gi_wp2_with fail
  refine ⟨trivial, (fun _ => by omega), ?_⟩
  gi_at_call 64
  refine (callsIn_wide.2 (pz_pop HM6.out.hp HM6.out.hs (by omega))).mono ?_
  rintro e w7 ⟨ok, y, m, f7, T, zy, rfl, ez, hpo⟩
  have hs7 := hpo.fr.size
  have hz6 : (w5.setCell ⟨W.heap.size + 1, x0, none⟩ (.bool true)).heap.size = w5.heap.size := by simp [World.setCell]
  rw [hz6] at hs7
  have HL8 := Lib.hid (HM6.out.popped (V3 := w7.alloc (.cells #[.int .i64 zy, .int .i64 ((if ok then y else 0 : Nat) : Int)] 60)) (sb := w7.heap.size) HPS6.out hpo (fun k hk _ => Below.heap_alloc _ _ _ (by rw [hz6] at hk; omega)) (by simp) (by rw [← ez]; exact heap_alloc_new w7 _) ⟨by omega, by omega, by omega, by omega, fun b e => by have := (HP5.out.far.2 b e).2; omega⟩)
  have HB8 := Lib.hid ((HB6.out.trans (hpo.fr.below (B := W.heap.size) (by rw [hz6]; omega) (Nat.le_refl _) (fun b e => by have := HOB5.out b e; omega))).alloc (by omega) (.cells #[.int .i64 zy, .int .i64 ((if ok then y else 0 : Nat) : Int)] 60))
  have HJ8 := Lib.hid (HJ.out _ _ _ HJ0.out (Nat.le_refl _) HB8.out)
  clear hpo ez c0 c1 c2 c3
  obtain ⟨yy, eyy⟩ : ∃ yy : Int, ((if ok then y else 0 : Nat) : Int) = yy := ⟨_, rfl⟩
  rw [eyy] at HL8 HB8 HJ8 ⊢
  clear eyy
  gi_wp2
  generalize hV8 : w7.alloc (.cells #[.int .i64 zy, .int .i64 yy] 60) = V8 at HL8 HJ8 ⊢
  clear HM6 HB6 HPS6 HB8 HP5 HS5 HOB5 HX5 HR5 HB5 HR4 HX4 HP4 HB4 HSZ3 HROW HK3 HK1 HB3 hV8 hz6 hs7 HJ0 hmk
  refine wpIn_loop_gk (fun gk a V => ∃ (p : Int) (sb : Nat) (ok : Bool) (u9 u10 u11 u12 u13 u14 u15 u16 u17 u18 u19 u20 u21 u22 u23 u24 u25 u26 u27 u28 u29 u30 u31 u32 u33 u34 u35 u36 u37 u38 u39 u40 u41 u42 u43 u44 u45 u46 u47 u48 u49 u50 u51 u52 u53 u54 u55 u56 : Value) (ds : List Deferred) (L : List (Ix (R * C) × Int)) (y m : Nat) (S T : Nat → Prop) (f : Nat → Nat) (ob : Option Nat) (F : Nat → Bool), a = { tmps := #[.func (.yield l) #[] #[], .pointer (some ⟨Bm, 0, none⟩), .pointer (some ⟨Bi, 0, none⟩), undef, .pointer (some ⟨W.heap.size, 0, none⟩), .pointer (some ⟨W.heap.size + 1 + 1, 0, none⟩), .int .i64 p, .pointer (some ⟨sb, 0, none⟩), .bool ok, u9, u10, u11, u12, u13, u14, u15, u16, u17, u18, u19, u20, u21, u22, u23, u24, u25, u26, u27, u28, u29, u30, u31, u32, u33, u34, u35, u36, u37, u38, u39, u40, u41, u42, u43, u44, u45, u46, u47, u48, u49, u50, u51, u52, u53, u54, u55, u56], defers := ds } ∧
      PzL W V Bm R C cnt gg cap W.heap.size (W.heap.size + 1) (W.heap.size + 1 + 1) Z st L p sb ok y S T m f ob F ∧ J L V ∧ Coll W.heap.size V.heap.size ds V ∧ gk = R * C + 1 - L.length)
    (R * C + 1) ⟨99, _, ok, _, _, _, _, _, _, _, _, _, _, _, _, _, _, _, _, _, _, _, _, _, _, _, _, _, _, _, _, _, _, _, _, _, _, _, _, _, _, _, _, _, _, _, _, _, _, _, _, [], [], y, m, _, _, _, _, _, rfl, HL8.out, HJ8.out, Coll.nil, by simp⟩ ?_
  rintro gk _ V ⟨p, sb, ok, u9, u10, u11, u12, u13, u14, u15, u16, u17, u18, u19, u20, u21, u22, u23, u24, u25, u26, u27, u28, u29, u30, u31, u32, u33, u34, u35, u36, u37, u38, u39, u40, u41, u42, u43, u44, u45, u46, u47, u48, u49, u50, u51, u52, u53, u54, u55, u56, ds, L, y, m, S, T, f, ob, F, rfl, hl, hj, hco, rfl⟩ K hK
  clear HL8 HJ8
  have HK := Lib.hid @hK
  have HL := Lib.hid hl
  have HJV := Lib.hid hj
  have HCO := Lib.hid hco
  have hszV := hl.mem.szW
  clear hK hj hco
  cases ok
  case false =>
    have HV := Lib.hid (show Vis R C Z st L ∧ AllIn L from ⟨hl.psi.vis, fun x => hl.psi.all (hl.no rfl) HZ.out x⟩)
    clear hl
    gi_wp2
    exact HCO.out.leaves_own (fun A => J L A ∧ W.heap.size ≤ A.heap.size) (fun A D hD hA hJA => ⟨HJ.out _ _ _ hJA.1 hJA.2 (below_put A D _ hD), by have := (below_put (B := 0) A D (.deferred none) (Nat.zero_le _)).size; exact Nat.le_trans hJA.2 this⟩) (fun W => results_none rfl _ _ _) ⟨HJV.out, hszV⟩ (fun W' hT => ⟨⟨_, rfl⟩, .inl ⟨L, HV.out, hT.1⟩⟩)
  case true =>
    obtain ⟨hy, htop, hT⟩ := hl.yes rfl
    obtain ⟨i, hi⟩ : ∃ i : Ix (R * C), i.1 = y := ⟨⟨y, hl.psi.lt y hy⟩, rfl⟩
    have HI := Lib.hid hi
    obtain rfl : T = fun z => S z ∧ z ≠ y := funext fun z => propext (hT z)
    obtain ⟨hv1, hv2⟩ := hl.psi.visit i (by rw [hi]; exact hy) (fun z hz => by rw [hi]; exact htop z hz)
    have hlen2 : (L ++ [(i, min p (Z i.1))]).length ≤ R * C := by
      have := ix_nodup_le hv1.nodup
      simpa using this
    have hlen : L.length < R * C := by
      rw [List.length_append] at hlen2
      simp at hlen2
      omega
    rw [hi] at hv1 hv2 hlen2
    obtain ⟨z, ez⟩ : ∃ z, Z y = z := ⟨_, rfl⟩
    have HEZ := Lib.hid ez
    obtain ⟨q, eq⟩ : ∃ q, min p z = q := ⟨_, rfl⟩
    have HEQ := Lib.hid eq
    rw [ez, eq] at hv1 hv2 hlen2
    have HV1 := Lib.hid hv1
    have HV2' := Lib.hid hv2
    have hsp := hl.sp
    simp only [if_true] at hsp
    rw [ez] at hsp
    have HSP := Lib.hid hsp
    obtain ⟨s0, s1, _, _⟩ := cells2 hsp
    have hyy := HY.out L (i, q) V HJV.out hlen
    simp only [psEnc] at hyy
    rw [hi, ez] at hyy
    obtain ⟨fn, tmps, assign, body, hyl, hRd⟩ := hyy
    have HRD := Lib.hid hRd
    clear hv1 hv2 hsp hRd hl ez hi hy htop hT
    gi_wp2
    refine ⟨(fun _ => by omega), ?_⟩
    refine HRD.out.mono ?_
    rintro e V2 (⟨rfl, hj2, hk2⟩ | ⟨rfl, hj2, hk2⟩)
    case inr =>
      have HJ2 := Lib.hid hj2
      have HCO2 := Lib.hid (HCO.out.keep (W' := V2) (fun k o hk hB ho hc => hk2.same k o hB ho hc))
      have hz2 := hk2.size
      have HVI := Lib.hid HV1.out.vis
      clear hj2 hk2 hyl s0 s1
      gi_wp2
      exact HCO2.out.leaves_own (fun A => Jx (L ++ [(i, q)]) A ∧ W.heap.size ≤ A.heap.size) (fun A D hD hA hJA => ⟨HJX.out _ _ _ hJA.1 hJA.2 (below_put A D _ hD), by have := (below_put (B := 0) A D (.deferred none) (Nat.zero_le _)).size; exact Nat.le_trans hJA.2 this⟩) (fun W => results_none rfl _ _ _) ⟨HJ2.out, Nat.le_trans hszV hz2⟩ (fun W' hT => ⟨⟨_, rfl⟩, .inr ⟨_, HVI.out, hT.1⟩⟩)
    case inl =>
      have HJ2 := Lib.hid hj2
      have HM2 := Lib.hid (HL.out.mem.kq hk2)
      have HCO2 := Lib.hid (HCO.out.kq (Nat.le_refl _) hk2)
      have hz2 := hk2.size
      have HSB := Lib.hid HL.out.sbf
      have HSP2 := Lib.hid ((hk2.same sb (Or.inl HL.out.sbf.1) (lt_of_block HSP.out)).trans HSP.out)
      clear hj2 hk2 hyl s0 s1
      obtain ⟨s0, s1, _, _⟩ := cells2 HSP2.out
      obtain ⟨m0, m1, m2, _, _, _⟩ := cells3 HM2.out.lay
      gi_wp2_with (refine ⟨trivial, (fun _ => by omega), ?_⟩; gi_at_call 76; refine (callsIn_wide.2 (nb_any R C gg cnt cap y _)).mono ?_; rintro e w' ⟨rfl, rfl⟩)
      obtain ⟨n1, n2, nsz, nb⟩ := two_allocs V2 (.cells #[.int .i64 R, .int .i64 C, .slice (some ⟨gg, 0, none⟩) cnt cap] 38) (.cells #[.int .i64 y] 3)
      generalize hV3 : (V2.alloc (.cells #[.int .i64 R, .int .i64 C, .slice (some ⟨gg, 0, none⟩) cnt cap] 38)).alloc (.cells #[.int .i64 y] 3) = V3 at n1 n2 nsz nb ⊢
      have N1 := Lib.hid n1
      have N2 := Lib.hid n2
      have NB := Lib.hid nb
      clear hV3 n1 n2 nb m0 m1 m2 s0 s1
      have hsbV : sb < V2.heap.size := lt_of_block HSP2.out
      have HI0 := Lib.hid (show PzB W Bm R C cnt gg cap W.heap.size (W.heap.size + 1) (W.heap.size + 1 + 1) Z st (L ++ [(i, q)]) q i sb V2.heap.size z y [] V3 from by
        refine ⟨⟨_, m, f, ob, F, ?_, fun _ => HV1.out.begin, HV1.out.lt, fun b e => ⟨HSB.out.2.2.2.2 b e, fun e2 => by have := (HM2.out.hp.far.2 b e).2; omega⟩⟩, (NB.out.block _ hsbV).trans HSP2.out, by omega, by omega⟩
        have hm := HM2.out.below NB.out
        refine ⟨hm.hp, hm.hs, hm.nle, hm.fd, fun x => ?_, hm.bx, hm.lay, hm.rv, hm.old, hm.far, hm.szW⟩
        rw [hm.hF x]
        simp only [List.map_append, List.map_cons, List.map_nil, List.mem_append, List.mem_singleton]
        constructor
        · rintro (k | k)
          · exact Or.inl (Or.inl k)
          · by_cases e : x.1 = y
            · exact Or.inl (Or.inr (Subtype.ext (by rw [HI.out, e])))
            · exact Or.inr ⟨k, e⟩
        · rintro ((k | k) | k)
          · exact Or.inl k
          · refine Or.inr ?_
            have := (HL.out.yes rfl).1
            rw [k, HI.out]
            exact this
          · exact Or.inr k.1)
      have HJ3 := Lib.hid (HJ.out _ _ _ HJ2.out (by omega) (NB.out.mono (by omega)))
      refine wpIn_rangeFunc_ownF (ps := #[43]) rfl (by omega) (gf := 81) (lb := #[.pointer (some ⟨V2.heap.size + 1, 0, none⟩), .pointer (some ⟨V2.heap.size, 0, none⟩)]) rfl trivial (enters_of Try.func81 (by kernel_rfl) rfl)
        (nb_stops (n - 1) (by omega) (V2.heap.size + 1) V2.heap.size R C gg cap cnt hR hC i V3 (by omega) (by omega) (by rw [HI.out]; exact one_cell N2.out) (three_cells N1.out)) Kb.trans (kb_b (by omega)) (Below.refl _ _) (fun _ => rfl)
        (fun pre X => (PzB W Bm R C cnt gg cap W.heap.size (W.heap.size + 1) (W.heap.size + 1 + 1) Z st (L ++ [(i, q)]) q i sb V2.heap.size z y pre X ∧ J (L ++ [(i, q)]) X) ∧ Coll W.heap.size V2.heap.size ds X)
        (fun _ _ _ => False)
        (pzB_ownFrom (fun _ X Y h1 h2 h3 => HJ.out _ X Y h1 h2 h3) (by omega) (by omega))
        (fun _ _ _ _ _ hs _ _ => hs)
        ⟨⟨HI0.out, HJ3.out⟩, (HCO2.out.mono hz2).below NB.out (Nat.le_refl _)⟩
        (fun x => { tmps := #[(.func (.yield l) #[] #[]), .pointer (some ⟨Bm, 0, none⟩), .pointer (some ⟨Bi, 0, none⟩), undef, .pointer (some ⟨W.heap.size, 0, none⟩), .pointer (some ⟨W.heap.size + 1 + 1, 0, none⟩), .int .i64 q, .pointer (some ⟨sb, 0, none⟩), .bool true, .int .i64 x.1, u10, u11, u12, u13, u14, u15, u16, u17, u18, u19, u20, u21, u22, u23, u24, .bool true, u26, u27, u28, u29, .int .i64 p, .pointer (some ⟨sb, 0, none⟩), .int .i64 z, .int .i64 q, (.func (.yield l) #[] #[]), .agg #[.int .i64 z, .int .i64 y], .int .i64 q, .bool true, .bool false, .agg #[.int .i64 R, .int .i64 C, .slice (some ⟨gg, 0, none⟩) cnt cap], .pointer (some ⟨sb, 1, none⟩), .int .i64 y, (.func (.func 81) #[] #[.pointer (some ⟨V2.heap.size + 1, 0, none⟩), .pointer (some ⟨V2.heap.size, 0, none⟩)]), .int .i64 x.1, u44, u45, u46, u47, u48, u49, u50, u51, u52, u53, u54, u55, u56], defers := [] }) ?assign ?body ?done ?stop
      case assign =>
        intro l2 x X K2 hK2
        gi_wp2
        simpa using hK2
      case body =>
        rintro l2 pre x X ⟨⟨hI, hJx⟩, hcx⟩ hpl
        dsimp only
        obtain ⟨⟨T, n2, f2, ob2, F2, hm, hpsi, hlt, hob⟩, hspX, hszX, hszWX⟩ := hI
        have hxc : x.1 < cnt := by rw [HCN.out]; exact x.2
        have cx := one_cell hm.bx
        have cF := hm.fd.cell hxc
        have fF : X.frozen? ⟨W.heap.size + 1, x.1, none⟩ = false := hm.fd.frozen x.1
        obtain ⟨m0, m1, m2, _, _, _⟩ := cells3 hm.lay
        have HMX := Lib.hid hm
        have HPX := Lib.hid hpsi
        have HLX := Lib.hid hlt
        have HOX := Lib.hid hob
        have HSX := Lib.hid hspX
        have HJX2 := Lib.hid hJx
        have HCX := Lib.hid hcx
        have HFX := Lib.hid (hm.hF x)
        obtain ⟨bb, ebb⟩ : ∃ bb, F2 x.1 = bb := ⟨_, rfl⟩
        rw [ebb] at cF HFX
        obtain ⟨xx, exx⟩ : ∃ xx, x.1 = xx := ⟨_, rfl⟩
        have HXX := Lib.hid exx
        rw [exx] at cF fF hxc ⊢
        have hxc' : (xx : Int) < cnt := by omega
        clear hm hpsi hlt hob hspX hJx hcx ebb exx
        cases bb
        case true =>
          gi_wp2
          refine ⟨KeepsOthers.refl _, ⟨Nat.le_refl _, rfl⟩, ⟨⟨⟨T, n2, f2, ob2, F2, HMX.out, fun hin => ?_, HLX.out, HOX.out⟩, HSX.out, hszX, hszWX⟩, HJX2.out⟩, HCX.out⟩
          refine (HPX.out (fun a ha => hin a (List.mem_append_left _ ha))).old ?_
          exact HFX.out.1 (by trivial)
        case false =>
          obtain ⟨k1, k2, k3, k4, k5, k6, k7⟩ := HMX.out.mark xx
          have HK1 := Lib.hid k1
          have HK6 := Lib.hid k6
          have HSPX := Lib.hid (spot_any R C gg cap cnt Z xx _ k5 hxc (by omega))
          obtain ⟨j0, j1, j2, _, _, _⟩ := cells3 k4
          have HNF := Lib.hid (show ¬ (x ∈ (L ++ [(i, q)]).map Prod.fst ∨ T xx) from fun h => by
            rw [HXX.out] at HFX
            have := HFX.out.2 h
            cases this)
          clear k1 k2 k3 k4 k5 k6
          gi_wp2_with fail
          refine ⟨trivial, (fun _ => by omega), ?_⟩
          gi_at_call 63
          refine ((callsIn_wide.2 HSPX.out).inRound l2).mono ?_
          rintro e X2 ⟨rfl, hbX2⟩
          have BX2 := Lib.hid hbX2
          have hzX2 := hbX2.size
          rw [k7] at hzX2
          clear hbX2 cx cF fF m0 m1 m2 j0 j1 j2
          gi_wp2_with fail
          refine ⟨trivial, (fun _ => by omega), ?_⟩
          gi_at_call 62
          refine ((callsIn_wide.2 (push_any W.heap.size ob2 Z f2 n2 xx T X2 (HK1.out.keepB BX2.out (Nat.le_refl _)) HMX.out.hs (fun h => HNF.out (Or.inr h)) (by have := HMX.out.nle; omega) (by omega))).inRound l2).mono ?_
          rintro e X3 ⟨⟨v3, rfl⟩, f3, ob3, hp3, hs3, hn3, hf3⟩
          have hbX2 : Below X.heap.size (X.setCell ⟨W.heap.size + 1, xx, none⟩ (.bool true)) X2 := BX2.out.mono (by rw [k7]; exact Nat.le_refl _)
          obtain ⟨hmm, hbl⟩ := HMX.out.push (G' := fun x' => x' ∈ (L ++ [(i, q)]).map Prod.fst ∨ (T x'.1 ∨ x'.1 = xx)) hbX2 hp3 hs3 hn3 hf3 (hpS_room hs3 (fun a ha => by
            rcases ha with k | k
            · exact HLX.out a k
            · rw [k, ← HXX.out]; exact x.2)) (fun x' => by rw [or_assoc])
          have hsbX := lt_of_block HSX.out
          have KS := Lib.hid (push_keeps hbX2 hf3 hsbX HSB.out.2.1 HSB.out.2.2.1 (fun a e => (HOX.out a e).1))
          have KQ := Lib.hid (push_keeps hbX2 hf3 (show V2.heap.size < X.heap.size by omega) (show V2.heap.size ≠ W.heap.size by have := HM2.out.hp.far.1; omega) (show V2.heap.size ≠ W.heap.size + 1 by have := HM2.out.fd.lt; omega) (fun a e => (HOX.out a e).2))
          have KO := Lib.hid ((KeepsOthers.setCell X ⟨W.heap.size + 1, xx, none⟩ (.bool true)).trans ((others_below BX2.out).trans (hf3.others (HK1.out.keepB BX2.out (Nat.le_refl _)))))
          have HN3 := Lib.hid (show ∀ a, ob3 = some a → a ≠ sb ∧ a ≠ V2.heap.size from fun a e => by
            rcases hn3 with e2 | ⟨a', e2, ha'⟩
            · exact HOX.out a (by rw [← e2]; exact e)
            · rw [e2] at e; simp only [Option.some.injEq] at e; omega)
          have HMM := Lib.hid hmm
          have HBL := Lib.hid hbl
          have hz3 := KO.out.size
          clear hp3 hs3 hn3 hf3 hmm hbl hbX2 hzX2
          gi_wp2
          refine ⟨KO.out, ⟨hz3, KQ.out⟩, ⟨⟨⟨_, _, _, _, _, HMM.out, fun hin => ?_, fun a ha => ?_, HN3.out⟩, KS.out.trans HSX.out, by omega, by omega⟩, HJ.out _ _ _ HJX2.out hszWX HBL.out⟩, HCX.out.others KO.out⟩
          · have := (HPX.out (fun a ha => hin a (List.mem_append_left _ ha))).new HV2'.out (hin x (List.mem_append_right _ (List.mem_singleton.2 rfl))) (fun h => HNF.out (Or.inl h)) (fun h => HNF.out (Or.inr (by rw [← HXX.out]; exact h)))
            rw [HXX.out] at this
            exact this
          · rcases ha with k | k
            · exact HLX.out a k
            · rw [k, ← HXX.out]; exact x.2
      case done =>
        rintro D ys X hD rfl ⟨⟨hI, hJx⟩, hcx⟩ hKD
        obtain ⟨⟨T, n2, f2, ob2, F2, hm, hpsi, hlt, hob⟩, hspX, hszX, hszWX⟩ := hI
        have hDlt := (Array.getElem?_eq_some_iff.1 hKD).1
        obtain ⟨s0, s1, _, _⟩ := cells2 hspX
        have HMX := Lib.hid hm
        have HPX := Lib.hid (hpsi (fun a ha => ha)).finish
        have HJX2 := Lib.hid hJx
        have HCX := Lib.hid ((hcx.cons (by omega) (by omega) hKD).mono (N' := X.heap.size) (by omega))
        have HM1 := Lib.hid (hm.below ((Below.refl X.heap.size X).alloc (Nat.le_refl _) (.cells #[.int .i64 z, .int .i64 y] 60)))
        have HNW := Lib.hid (heap_alloc_new X (.cells #[.int .i64 z, .int .i64 y] 60))
        clear hm hpsi hlt hob hJx hcx hKD hspX
        gi_wp2_with fail
        refine ⟨trivial, (fun _ => by omega), ?_⟩
        gi_at_call 64
        refine (callsIn_wide.2 (pz_pop HM1.out.hp HM1.out.hs (by have := HM1.out.nle; omega))).mono ?_
        rintro e X2 ⟨ok, y2, m2, f3, T2, zy, rfl, ez, hpo⟩
        have hsX2 := hpo.fr.size
        have hsX1 : (X.alloc (.cells #[.int .i64 z, .int .i64 y] 60)).heap.size = X.heap.size + 1 := by simp
        rw [hsX1] at hsX2
        have hfar := HMX.out.hp.far
        have hw1 := HMX.out.far
        have hfd := HMX.out.fd.lt
        have hbx := lt_of_block HMX.out.bx
        have hX2 := (hpo.fr.block X.heap.size (by omega) (by omega) (fun e => by have := (hfar.2 _ e.symm).2; omega)).trans HNW.out
        have HLN := Lib.hid (HM1.out.popped (V3 := (X2.setCell ⟨X.heap.size, 0, none⟩ (.int .i64 zy)).setCell ⟨X.heap.size, 1, none⟩ (.int .i64 ((if ok then y2 else 0 : Nat) : Int))) (sb := X.heap.size) HPX.out hpo
          (fun k _ hk => by rw [Below.heap_setCell _ _ _ _ (by simpa using hk), Below.heap_setCell _ _ _ _ (by simpa using hk)]) (by simp [World.setCell]) (by rw [← ez]; exact two_set _ _ _ _ _ _ hX2) ⟨hszWX, by omega, by omega, by omega, fun a e => by have := (hfar.2 a e).2; omega⟩)
        have HBN := Lib.hid ((((Below.refl W.heap.size X).alloc hszWX (.cells #[.int .i64 z, .int .i64 y] 60)).trans (hpo.fr.below (B := W.heap.size) (by omega) (Nat.le_refl _) (fun a e => (hw1.2.2.2.2.2.2 a e).2.2))).setCell (p := ⟨X.heap.size, 0, none⟩) hszWX (.int .i64 zy) |>.setCell (p := ⟨X.heap.size, 1, none⟩) hszWX (.int .i64 ((if ok then y2 else 0 : Nat) : Int)))
        have HCN := Lib.hid ((HCX.out.below ((Below.refl X.heap.size X).alloc (Nat.le_refl _) (.cells #[.int .i64 z, .int .i64 y] 60)) (Nat.le_refl _)).others (((hpo.fr.others HM1.out.hp).trans (KeepsOthers.setCell X2 ⟨X.heap.size, 0, none⟩ (.int .i64 zy))).trans (KeepsOthers.setCell _ ⟨X.heap.size, 1, none⟩ (.int .i64 ((if ok then y2 else 0 : Nat) : Int)))))
        obtain ⟨g1, g2, g3, g4⟩ := cells2 hX2
        clear hpo ez s0 s1 hX2
        obtain ⟨yy, eyy⟩ : ∃ yy : Int, ((if ok then y2 else 0 : Nat) : Int) = yy := ⟨_, rfl⟩
        rw [eyy] at HLN HBN HCN ⊢
        clear eyy
        gi_wp2
        refine HK.out (R * C + 1 - (L ++ [(i, q)]).length) _ _ ?_ ⟨q, X.heap.size, ok, _, _, _, _, _, _, _, _, _, _, _, _, _, _, _, _, _, _, _, _, _, _, _, _, _, _, _, _, _, _, _, _, _, _, _, _, _, _, _, _, _, _, _, _, _, _, _, _, _, L ++ [(i, q)], y2, m2, _, _, _, _, _, rfl, HLN.out, HJ.out _ _ _ HJX2.out hszWX HBN.out, HCN.out.mono (by simp [World.setCell]; omega), rfl⟩
        simp only [List.length_append, List.length_cons, List.length_nil]
        omega
      case stop =>
        rintro D c pre X _ _ h _
        exact h.elim

end Go.Proofs.Ytlbdglhippapnab
