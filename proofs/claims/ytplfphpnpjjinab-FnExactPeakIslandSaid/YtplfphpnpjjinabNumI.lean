/- The numbers of the cells' regions, in the program. -/
import Derived.Test.YtplfphpnpjjinabFo
import Derived.Test.YtplfphpnpjjinabLvI4b
namespace Go.Proofs.Ytplfphpnpjjinab
open Go.RowKit Go.Shelf
set_option linter.unusedVariables false
attribute [local go_sem] Oper.semAt_some

/-- what numbers leaves -/
def NumPost (R C cnt : Nat) (Z : Nat → Int) (lv : Int) (w : World) (e : Ending) (w' : World) : Prop :=
  ∃ q, e = .returned (.tuple #[.slice (some ⟨q, 0, none⟩) cnt cnt, .int .i64 (rgN R C Z lv cnt : Nat)]) ∧ w.heap.size ≤ q ∧ w'.rowIs q 3 cnt (fun j => .int .i64 (numZ R C Z lv j)) ∧ Below w.heap.size w w'

theorem others_chg {p : Nat} {W W' : World} (h : Chg p (p + 1) W W') {cs : Array Value} {t : TypeId} {fr : Nat × Nat} (hp : W.heap[p]? = some (.cells cs t fr)) : KeepsOthers W W' :=
  ⟨h.size, fun k o hk hc => (h.block k (Array.getElem?_eq_some_iff.1 hk).1 (fun hn => by
    have : k = p := by omega
    subst this
    rw [hp] at hk; cases hk; cases hc)).trans hk⟩
theorem ownFrom_fo {α : Type} {B f p n : Nat} {G : α → (Nat → Nat) → Prop} : OwnFrom B (fun (s : α) W => ∃ P, Fo W f p n P ∧ G s P) := fun s X Y row hs hg hrow => by
  obtain ⟨P, hF, hG⟩ := hs
  have h1 : Y.heap[f]? = X.heap[f]? := hg.block f (Array.getElem?_eq_some_iff.1 hF.1).1 (fun e => by
    obtain ⟨_, o, ho, hc⟩ := hrow f e.symm
    rw [hF.1] at ho; cases ho; cases hc)
  have h2 : Y.heap[p]? = X.heap[p]? := hg.block p hF.2.1.lt (fun e => by
    obtain ⟨_, o, ho, hc⟩ := hrow p e.symm
    obtain ⟨c, h3, _⟩ := hF.2.1
    rw [h3] at ho; cases ho; cases hc)
  exact ⟨P, hF.keep h1 h2, hG⟩

/-- the row of numbers when k cells are done -/
def numF (R C : Nat) (Z : Nat → Int) (lv : Int) (k j : Nat) : Value := if j < k then .int .i64 (numZ R C Z lv j) else .int .i64 0
theorem numF_set {R C : Nat} {Z : Nat → Int} {lv : Int} {k j : Nat} {v : Int} (h : v = numZ R C Z lv k) : (if j = k then Value.int .i64 v else numF R C Z lv k j) = numF R C Z lv (k + 1) j := by
  unfold numF
  by_cases e : j = k
  · subst e; simp [h]
  · by_cases e2 : j < k
    · simp [e, e2, Nat.lt_succ_of_lt e2]
    · have : ¬ j < k + 1 := by omega
      simp [e, e2, this]

set_option maxRecDepth 100000 in
set_option maxHeartbeats 20000000 in
theorem numbers_any (R C gg cap cnt : Nat) (hR : R ≤ 7) (hC : C ≤ 7) (Z : Nat → Int) (lv : Int) (w : World) (h : Rv w R C cnt gg cap Z) :
    Calls Try.prog 56 #[.agg #[.int .i64 R, .int .i64 C, .slice (some ⟨gg, 0, none⟩) cnt cap, .int .i64 lv]] w (NumPost R C cnt Z lv w) := by
  have H := Lib.hid h
  have h49 := mul_le_49 hR hC
  have HCN := Lib.hid h.n_eq
  have hcn49 : cnt ≤ 49 := by rw [HCN.out]; exact h49
  have hgl : gg < w.heap.size := h.lt
  have hle : cnt ≤ cap := h.le
  clear h
  have hb0 := (Below.refl w.heap.size w).alloc (Nat.le_refl _) (.cells #[.int .i64 R, .int .i64 C, .slice (some ⟨gg, 0, none⟩) cnt cap, .int .i64 lv] 60)
  have HB0 := Lib.hid hb0
  have HL0 := Lib.hid (heap_alloc_new w (.cells #[.int .i64 R, .int .i64 C, .slice (some ⟨gg, 0, none⟩) cnt cap, .int .i64 lv] 60))
  have HNF := Lib.hid (newForest_any cnt (w.alloc (.cells #[.int .i64 R, .int .i64 C, .slice (some ⟨gg, 0, none⟩) cnt cap, .int .i64 lv] 60)) (by omega))
  clear hb0
  refine (callsIn_wide (n := 5)).1 ?_
  refine callsIn_of_wp_marks Try.func56 rfl trivial ?_ rfl
  simp only [Try.ntmps56, List.size_toArray, List.length_cons, List.length_nil, Nat.reduceAdd, Nat.reduceSub, Array.replicate_succ, Array.replicate_zero, List.push_toArray, List.append_toArray, List.nil_append, List.cons_append]
  gi_wp2_with fail
  refine ⟨trivial, ?_⟩
  gi_at_call 88
  refine (callsIn_wide.2 HNF.out).mono ?_
  rintro e w2 ⟨f, p, rfl, hfo, hf1, hp1, hb2⟩
  have hs2 := hb2.size
  simp only [World.size_alloc] at hf1 hp1 hs2
  have hb2' := HB0.out.trans (hb2.mono (by simp))
  have hl2 := (hb2.block w.heap.size (by simp)).trans HL0.out
  have hfl : f < w2.heap.size := (Array.getElem?_eq_some_iff.1 hfo.1).1
  have hpl : p < w2.heap.size := hfo.2.1.lt
  have hfp := hfo.2.2
  have HFO := Lib.hid hfo
  have HB2 := Lib.hid hb2'
  have HL2 := Lib.hid hl2
  have hwl : w.heap.size < w2.heap.size := by omega
  obtain ⟨m0, m1, m2, m3⟩ := cells4 hl2
  have hne : w.heap.size ≠ w2.heap.size := by omega
  clear hfo hb2 hb2' hl2
  gi_wp2_with (refine ⟨trivial, ?_⟩; gi_at_call 89; refine (callsIn_wide.2 (sides_any R C gg cnt cap lv _)).mono ?_; rintro e w' ⟨rfl, rfl⟩)
  obtain ⟨k1, k2, ksz, kb⟩ := two_allocs w2 (.cells #[.pointer (some ⟨f, 0, none⟩)] 94) (.cells #[.int .i64 R, .int .i64 C, .slice (some ⟨gg, 0, none⟩) cnt cap, .int .i64 lv] 60)
  generalize hW0 : (w2.alloc (.cells #[.pointer (some ⟨f, 0, none⟩)] 94)).alloc (.cells #[.int .i64 R, .int .i64 C, .slice (some ⟨gg, 0, none⟩) cnt cap, .int .i64 lv] 60) = W0 at k1 k2 ksz kb ⊢
  clear hW0 m0 m1 m2 m3
  have K1 := Lib.hid k1
  have K2 := Lib.hid k2
  have KB := Lib.hid kb
  have HFO0 := Lib.hid (HFO.out.keep (kb.block f hfl) (kb.block p hpl))
  have HL0' := Lib.hid ((kb.block w.heap.size hwl).trans HL2.out)
  have HBW := Lib.hid (HB2.out.trans (kb.mono (by omega)))
  clear k1 k2 kb
  refine wpIn_calm (ps := #[18, 19]) (sides_calm 4 (by omega) (w2.heap.size + 1) R C gg cap cnt hR hC Z lv W0 (by omega) K2.out (H.out.keep HBW.out (Nat.le_refl _))) rfl (by omega) rfl trivial (enters_of Try.func107 (by kernel_rfl) rfl)
    KqS.trans (kqs_put (by omega) (by omega)) (Below.refl _ _) (fun _ => rfl)
    (fun pre W => (((∃ P, Fo W f p cnt P ∧ Tells P (ePairs pre)) ∧ Boxed W w2.heap.size 94 (.pointer (some ⟨f, 0, none⟩))) ∧ W.heap[w.heap.size]? = some (.cells #[.int .i64 R, .int .i64 C, .slice (some ⟨gg, 0, none⟩) cnt cap, .int .i64 lv] 60 (0, 0))) ∧ Below w.heap.size w W)
    (OwnFrom.and (OwnFrom.and (OwnFrom.and ownFrom_fo (Own.from (boxed_own _ _ _) _)) (own_block (by omega))) (ownFrom_below (Nat.le_refl _) (by omega))) ⟨⟨⟨⟨_, HFO0.out, tells_nil⟩, K1.out⟩, HL0'.out⟩, HBW.out⟩
    (fun x => { tmps := #[.agg #[.int .i64 R, .int .i64 C, .slice (some ⟨gg, 0, none⟩) cnt cap, .int .i64 lv], .pointer (some ⟨w.heap.size, 0, none⟩), .slice none 0 0, .int .i64 0, .pointer (some ⟨w2.heap.size, 0, none⟩), .int .i64 x.1.1, .int .i64 x.2.1, undef, undef, undef, undef, .pointer (some ⟨w.heap.size, 0, none⟩), .pointer (some ⟨w.heap.size, 2, none⟩), .slice (some ⟨gg, 0, none⟩) cnt cap, .int .i64 cnt, .pointer (some ⟨f, 0, none⟩), .agg #[.int .i64 R, .int .i64 C, .slice (some ⟨gg, 0, none⟩) cnt cap, .int .i64 lv], .func (.func 107) #[] #[.pointer (some ⟨w2.heap.size + 1, 0, none⟩)], .int .i64 x.1.1, .int .i64 x.2.1, undef, undef, undef, undef, undef, undef, undef, undef, undef, undef, undef, undef, undef, undef, undef, undef, undef, undef, undef, undef, undef, undef, undef, undef, undef, undef, undef, undef, undef, undef, undef, undef, undef, undef, undef, undef, undef, undef, undef, undef, undef, undef, undef, undef, undef], defers := [] }) ?assign ?body ?done
  case assign =>
    intro l x W K hK
    gi_wp2
    simpa [pEnc] using hK
  case body =>
    rintro l pre x W ⟨⟨⟨⟨P, hF, hT⟩, hbx⟩, hm⟩, hB⟩ hpl2
    dsimp only
    have cB := hbx.cell
    have hxa : x.1.1 < cnt := by rw [HCN.out]; exact x.1.2
    have hxb : x.2.1 < cnt := by rw [HCN.out]; exact x.2.2
    have HJO := Lib.hid (join_any f p cnt P x.1.1 x.2.1 W hF (by omega) hxa hxb hT.1)
    obtain ⟨cs, hcs, _⟩ := hF.2.1
    have HCS := Lib.hid hcs
    have HT := Lib.hid (tells_snoc hT x)
    have HBX := Lib.hid hbx
    have HM := Lib.hid hm
    have HB := Lib.hid hB
    have hpW : w2.heap.size < W.heap.size := hbx.lt
    clear hF hT hbx hm hB hcs
    gi_wp2_with fail
    refine ⟨trivial, ?_⟩
    gi_at_call 90
    refine ((callsIn_wide.2 HJO.out).inRound l).mono ?_
    rintro e W' ⟨⟨v, rfl⟩, P', hF', hD', hr', hch, hsz⟩
    have HF2 := Lib.hid hF'
    have HT2 := Lib.hid (HT.out.same hD' hr')
    have HCH := Lib.hid hch
    clear hF' hD' hr' hch cB
    gi_wp2
    refine ⟨others_chg HCH.out HCS.out, ⟨HCH.out.size, fun k hk hlt => HCH.out.block k hlt (by omega)⟩, ⟨⟨⟨P', HF2.out, HT2.out⟩, ?_⟩, ?_⟩, HB.out.trans (HCH.out.below (by omega) HB.out.size)⟩
    · exact (HCH.out.block _ hpW (by omega)).trans HBX.out
    · exact (HCH.out.block _ (by omega) (by omega)).trans HM.out
  case done =>
    rintro D ys W hD rfl ⟨⟨⟨⟨P, hF, hT⟩, hbx⟩, hm⟩, hB⟩ hKD
    have hCM := fun x => cmZ_of hT x
    have HCM := Lib.hid hCM
    have HDN := Lib.hid hT.1
    have HF := Lib.hid hF
    have HBX := Lib.hid hbx
    have HM := Lib.hid hm
    have HB := Lib.hid hB
    have HKD := Lib.hid hKD
    have hDlt := (Array.getElem?_eq_some_iff.1 hKD).1
    have hfl2 : f < W.heap.size := (Array.getElem?_eq_some_iff.1 hF.1).1
    have hpl2 : p < W.heap.size := hF.2.1.lt
    have hbl2 : w2.heap.size < W.heap.size := hbx.lt
    obtain ⟨m0, m1, m2, m3⟩ := cells4 hm
    have hmk := run_make_row' (P := Try.prog) 27 3 (.int .i64 0) 8 Try.underlying27 Try.infoI rfl .i64 .i64 cnt (by omega) (by omega)
    clear hCM hT hF hbx hm hB hKD
    gi_wp2
    have e1 : (W.alloc (.cells (madeCells #[.int .i64 0] cnt) 3)).heap.size = W.heap.size + 1 := by simp
    have kr := (World.rowIs_made W (.int .i64 0) cnt 3).congr (g := numF R C Z lv 0) (fun j _ => by simp [numF])
    have kb : Below W.heap.size W (W.alloc (.cells (madeCells #[.int .i64 0] cnt) 3)) := (Below.refl _ _).alloc (Nat.le_refl _) _
    generalize hV : W.alloc (.cells (madeCells #[.int .i64 0] cnt) 3) = V at e1 kr kb ⊢
    clear hV hmk m0 m1 m2 m3
    have KR := Lib.hid kr
    have KV := Lib.hid kb
    clear kr kb
    have hwW : w.heap.size ≤ W.heap.size := by omega
    gi_loopw [8, 31] (fun c s wr => ∃ (k : Nat) (P' : Nat → Nat), k ≤ cnt ∧ s = .int .i64 k ∧ c = .int .i64 (rgN R C Z lv k : Nat) ∧ (Fo wr f p cnt P' ∧ Dn P' ∧ ∀ y, rt P' y = cmZ R C Z lv y) ∧ wr.rowIs W.heap.size 3 cnt (numF R C Z lv k) ∧ wr.heap[w.heap.size]? = some (.cells #[.int .i64 R, .int .i64 C, .slice (some ⟨gg, 0, none⟩) cnt cap, .int .i64 lv] 60 (0, 0)) ∧ Boxed wr w2.heap.size 94 (.pointer (some ⟨f, 0, none⟩)) ∧ Below w.heap.size w wr ∧ wr.heap[D]? = some (.deferred (some []))) (fun _ s _ => cnt - (intOf s).toNat)
    case atStart => exact ⟨0, P, Nat.zero_le _, rfl, rfl, ⟨HF.out.keep (KV.out.block f hfl2) (KV.out.block p hpl2), HDN.out, HCM.out⟩, KR.out, (KV.out.block _ (by omega)).trans HM.out, (KV.out.block _ hbl2).trans HBX.out, HB.out.trans (KV.out.mono hwW), (KV.out.block _ hDlt).trans HKD.out⟩
    case round =>
      obtain ⟨k, P', hk, rfl, rfl, ⟨hf, hd, hc⟩, hrow, hm, hbx, hb, hkd⟩ := hrel
      have hWl : W.heap.size < wr.heap.size := hrow.lt
      have cB := hbx.cell
      by_cases hlt : k < cnt
      · have hlt' : (k : Int) < cnt := by omega
        have HRT := Lib.hid (root_any f p cnt P' k wr hf (by omega) hlt hd)
        have HFr := Lib.hid hf
        have HCr := Lib.hid hc
        have HROW := Lib.hid hrow
        have HMr := Lib.hid hm
        have HBXr := Lib.hid hbx
        have HBr := Lib.hid hb
        have HKr := Lib.hid hkd
        have hfl3 : f < wr.heap.size := (Array.getElem?_eq_some_iff.1 hf.1).1
        have hbl3 : w2.heap.size < wr.heap.size := hbx.lt
        clear hf hd hc hrow hm hbx hb hkd
        gi_wp2_with fail
        refine ⟨trivial, ?_⟩
        gi_at_call 91
        refine (callsIn_wide.2 HRT.out).mono ?_
        rintro e w3 ⟨rfl, P3, f3, d3, r3, c3, s3⟩
        rw [HCr.out]
        have hm3 := (c3.block w.heap.size (by omega) (by omega)).trans HMr.out
        have hr3 := HROW.out.of_block (c3.block W.heap.size hWl (by omega))
        have hbx3 := (c3.block w2.heap.size hbl3 (by omega)).trans HBXr.out
        have hDr : D < wr.heap.size := (Array.getElem?_eq_some_iff.1 HKr.out).1
        have hkd3 := (c3.block D hDr (by omega)).trans HKr.out
        have hB3 := HBr.out.trans (c3.below (by omega) HBr.out.size)
        have FIN := Lib.hid (fun (w4 : World) (h4 : Below w3.heap.size w3 w4) (v : Int) (hv : v = numZ R C Z lv k) =>
          show (Fo (w4.setCell ⟨W.heap.size, k, none⟩ (.int .i64 v)) f p cnt P3 ∧ Dn P3 ∧ ∀ y, rt P3 y = cmZ R C Z lv y) ∧ (w4.setCell ⟨W.heap.size, k, none⟩ (.int .i64 v)).rowIs W.heap.size 3 cnt (numF R C Z lv (k + 1)) ∧ (w4.setCell ⟨W.heap.size, k, none⟩ (.int .i64 v)).heap[w.heap.size]? = some (.cells #[.int .i64 R, .int .i64 C, .slice (some ⟨gg, 0, none⟩) cnt cap, .int .i64 lv] 60 (0, 0)) ∧ Boxed (w4.setCell ⟨W.heap.size, k, none⟩ (.int .i64 v)) w2.heap.size 94 (.pointer (some ⟨f, 0, none⟩)) ∧ Below w.heap.size w (w4.setCell ⟨W.heap.size, k, none⟩ (.int .i64 v)) ∧ (w4.setCell ⟨W.heap.size, k, none⟩ (.int .i64 v)).heap[D]? = some (.deferred (some [])) from by
            have bk : ∀ b, b < w3.heap.size → b ≠ W.heap.size → (w4.setCell ⟨W.heap.size, k, none⟩ (.int .i64 v)).heap[b]? = w3.heap[b]? := fun b hb hn => (Below.heap_setCell w4 ⟨W.heap.size, k, none⟩ (.int .i64 v) b (by simpa using hn)).trans (h4.block b hb)
            exact ⟨⟨f3.keep (bk f (by omega) (by omega)) (bk p (by omega) (by omega)), d3, fun y => (r3 y).trans (HCr.out y)⟩, ((hr3.of_block (h4.block W.heap.size (by omega))).set k (.int .i64 v)).congr (fun j _ => numF_set hv), (bk _ (by omega) (by omega)).trans hm3, (bk _ (by omega) (by omega)).trans hbx3, (hB3.trans (h4.mono hB3.size)).setCell (p := ⟨W.heap.size, k, none⟩) hwW _, (bk D (by omega) (by omega)).trans hkd3⟩)
        have HR3 := Lib.hid hr3
        have HRV3 := Lib.hid (H.out.keep hB3 (Nat.le_refl _))
        have hcl := cmZ_le R C Z lv k
        have hrg := rgN_le R C Z lv k
        obtain ⟨m0, m1, m2, m3⟩ := cells4 hm3
        have hW3 : W.heap.size < w3.heap.size := by omega
        have hs3 : w3.heap.size = wr.heap.size := s3
        clear f3 d3 r3 c3 s3 hm3 hr3 hbx3 hkd3 hB3 HRT HROW HMr HBXr HBr HKr
        by_cases hl : lv ≤ Z k
        · have HLY := Lib.hid hl
          clear hl
          gi_wp2_with fail
          refine ⟨trivial, ?_⟩
          gi_at_call 92
          refine (callsIn_wide.2 (isLand_yes R C gg cap cnt Z lv k w3 HRV3.out hlt (by omega) HLY.out)).mono ?_
          rintro e w4 ⟨rfl, hb4⟩
          have HB4 := Lib.hid hb4
          have hrow4 := HR3.out.of_block (hb4.block W.heap.size hW3)
          have c5 := hrow4.cell hlt
          have f5 : w4.frozen? ⟨W.heap.size, k, none⟩ = false := hrow4.frozen k
          by_cases hroot : cmZ R C Z lv k = k
          · have F := Lib.hid (FIN.out w4 hb4 (rgN R C Z lv k : Nat) (by rw [numZ_yes HLY.out, hroot]))
            have HG := Lib.hid (rgN_yes (R := R) (C := C) HLY.out hroot)
            rw [hroot]
            clear hb4 hrow4 hroot
            generalize rgN R C Z lv k = rg at F HG hrg ⊢
            gi_wp2
            go_roundw
            case rel => exact ⟨k + 1, P3, by omega, by go_num, by rw [HG.out]; go_num, F.out.1, F.out.2.1, F.out.2.2.1, F.out.2.2.2.1, F.out.2.2.2.2.1, F.out.2.2.2.2.2⟩
            case measure => simp [intOf]; omega
          · have hlt2 : cmZ R C Z lv k < k := by omega
            have c6 := hrow4.cell (i := cmZ R C Z lv k) (by omega)
            have F := Lib.hid (FIN.out w4 hb4 (numZ R C Z lv (cmZ R C Z lv k)) (numZ_root HLY.out))
            have HG := Lib.hid (rgN_no (R := R) (C := C) (Z := Z) (lv := lv) (k := k) (fun h => hroot h.2))
            have e6 : numF R C Z lv k (cmZ R C Z lv k) = .int .i64 (numZ R C Z lv (cmZ R C Z lv k)) := by simp [numF, hlt2]
            rw [e6] at c6
            clear e6 hb4 hrow4 hroot
            generalize numZ R C Z lv (cmZ R C Z lv k) = nz at c6 F
            generalize cmZ R C Z lv k = cc at c6 hcl hlt2 ⊢
            have hne2 : ((cc : Int) == (k : Int)) = false := by rw [beq_eq_false_iff_ne]; omega
            have hcc : (cc : Int) < cnt := by omega
            have hcc2 : cc < cnt := by omega
            gi_wp2
            go_roundw
            case rel => exact ⟨k + 1, P3, by omega, by go_num, by rw [HG.out], F.out.1, F.out.2.1, F.out.2.2.1, F.out.2.2.2.1, F.out.2.2.2.2.1, F.out.2.2.2.2.2⟩
            case measure => simp [intOf]; omega
        · have HLN := Lib.hid hl
          clear hl
          gi_wp2_with fail
          refine ⟨trivial, ?_⟩
          gi_at_call 92
          refine (callsIn_wide.2 (isLand_no R C gg cap cnt Z lv k w3 HRV3.out hlt (by omega) (by have := HLN.out; omega))).mono ?_
          rintro e w4 ⟨rfl, hb4⟩
          have hrow4 := HR3.out.of_block (hb4.block W.heap.size hW3)
          have c5 := hrow4.cell hlt
          have f5 : w4.frozen? ⟨W.heap.size, k, none⟩ = false := hrow4.frozen k
          have F := Lib.hid (FIN.out w4 hb4 (-1) (numZ_no (by have := HLN.out; omega)).symm)
          have HG := Lib.hid (rgN_no (R := R) (C := C) (Z := Z) (lv := lv) (k := k) (fun h => by have h1 := HLN.out; have h2 := h.1; omega))
          clear hb4 hrow4
          gi_wp2
          go_roundw
          case rel => exact ⟨k + 1, P3, by omega, by go_num, by rw [HG.out], F.out.1, F.out.2.1, F.out.2.2.1, F.out.2.2.2.1, F.out.2.2.2.2.1, F.out.2.2.2.2.2⟩
          case measure => simp [intOf]; omega
      · have ek : k = cnt := by omega
        subst ek
        have HRW := Lib.hid (show wr.rowIs W.heap.size 3 k (fun j => .int .i64 (numZ R C Z lv j)) from hrow.congr (fun j hj => by simp [numF, hj]))
        have HBr := Lib.hid hb
        have HKr := Lib.hid hkd
        have hge : ¬ (k : Int) < k := by omega
        clear hf hd hc hrow hm hbx hb hkd
        gi_wp2
        refine ⟨by simp, .inl ⟨_, _, rfl, run_takeDeferred HKr.out, ?_⟩⟩
        have hq : (wr.putObj D (.deferred none)).heap[W.heap.size]? = wr.heap[W.heap.size]? := by
          unfold World.putObj
          first
            | (simp only []; rw [Array.getElem?_setIfInBounds_ne (by omega)])
            | (simp [Array.getElem?_setIfInBounds]; omega)
            | (simp [Array.getElem?_set]; omega)
        exact ⟨_, results_tmp2 rfl _ _ _, W.heap.size, rfl, hwW, HRW.out.of_block hq, HBr.out.trans (belowK_b (w := w) (Nat.le_refl _) wr D _ _ (by omega) HKr.out rfl rfl)⟩

end Go.Proofs.Ytplfphpnpjjinab
