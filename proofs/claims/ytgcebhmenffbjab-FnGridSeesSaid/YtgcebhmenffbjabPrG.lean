/- Rows of a relief as profiles; pairs in rows; ProfileRow and GridSees, in the model and in the program. -/
import Derived.Test.YtgcebhmenffbjabImplI
import Derived.Test.YtgcebhmenffbjabPrV
import Derived.Test.YtgcebhmenffbjabPrR
import Derived.Test.YtgcebhmenffbjabPrU
namespace Go.Proofs.Ytgcebhmenffbjab
open Go.RowKit
set_option linter.unusedVariables false

theorem own_owI2 {B L n : Nat} {w : World} {v : Value} {xs : List Value} {Z : Nat → Int} (h : w.ownsRow B 3 1 v n xs) (hL : L ≤ B) (hval : ∀ i, i < n → xs[i]? = some (.int .i64 (Z i))) (hZ : ∀ i, i < n → 0 ≤ Z i ∧ Z i ≤ 99) : OwI L w.heap.size w v n Z := by
  obtain ⟨hlen, ⟨rfl, h0⟩ | ⟨b, cap, cur, rfl, hB, hb, hc, hcap, hcs, ht⟩⟩ := h
  · exact Or.inl ⟨rfl, h0⟩
  · have hlt : b < w.heap.size := (Array.getElem?_eq_some_iff.1 hb).1
    refine Or.inr ⟨b, cur.size, cap, fun i => (cur[i]?).getD (.int .i64 0), rfl, by omega, hlt, ⟨cur, hb, rfl, fun i hi => by simp [hi]⟩, by rw [hcs]; omega, hc, by unfold maxLen at hcap; omega, fun i hi => ?_, fun i hi => by have := hZ i hi; omega⟩
    have e1 : cur.toList[i]? = xs[i]? := by rw [← ht, List.getElem?_take_of_lt (by omega)]
    have e2 : cur[i]? = some (.int .i64 (Z i)) := by rw [← Array.getElem?_toList, e1, hval i hi]
    show (cur[i]?).getD _ = _
    rw [e2]; rfl

theorem OwI.lower {lo lo' hi : Nat} {w : World} {v : Value} {n : Nat} {Z : Nat → Int} (h : OwI lo hi w v n Z) (hl : lo' ≤ lo) : OwI lo' hi w v n Z := by
  rcases h with h | ⟨b, N, cap, F, h0, h1, h2⟩
  · exact Or.inl h
  · exact Or.inr ⟨b, N, cap, F, h0, Nat.le_trans hl h1, h2⟩
theorem flat_okR {g : G} (h : g.Valid) {i : Nat} (hi : i < g.n * g.len 0) : 0 ≤ g.flat i ∧ g.flat i ≤ 99 := by
  have h0 : 0 < g.len 0 := by have := h.2.1.1; omega
  unfold G.flat
  exact valid_at h (Nat.div_lt_of_lt_mul (by rw [Nat.mul_comm]; exact hi)) (Nat.mod_lt _ h0)

/-- what a method that makes a relief leaves: its list is the call's own -/
def MOwn (R C : Nat) (Z : Nat → Int) (w : World) (e : Ending) (w' : World) : Prop :=
  ∃ n gg cap, e = .returned (.agg #[.int .i64 R, .int .i64 C, .slice (some ⟨gg, 0, none⟩) n cap]) ∧ n = R * C ∧ OwI w.heap.size w'.heap.size w' (.slice (some ⟨gg, 0, none⟩) n cap) n Z ∧ Below w.heap.size w w'

set_option maxHeartbeats 2000000 in
set_option maxRecDepth 20000 in
theorem part_own (R C n gg cap T F R2 C2 : Nat) (Z : Nat → Int) (w : World) (h : Rv w R C n gg cap Z) (hR : R ≤ 7) (hC : C ≤ 7) (hR2 : T + R2 ≤ R) (hC2 : F + C2 ≤ C) (hzr : ∀ i, i < R2 * C2 → 0 ≤ Z ((T + i / C2) * C + (F + i % C2)) ∧ Z ((T + i / C2) * C + (F + i % C2)) ≤ 99) :
    Calls Try.prog 95 #[.agg #[.int .i64 R, .int .i64 C, .slice (some ⟨gg, 0, none⟩) n cap], .int .i64 T, .int .i64 F, .int .i64 R2, .int .i64 C2] w (MOwn R2 C2 (fun i => Z ((T + i / C2) * C + (F + i % C2))) w) := by
  have HZR := Lib.hid hzr
  clear hzr
  have hn49 : n ≤ 49 := by rw [h.n_eq]; exact mul_le_49 hR hC
  obtain ⟨W0, hW0⟩ : ∃ W0, W0 = (((w.alloc (.cells #[.int .i64 R, .int .i64 C, .slice (some ⟨gg, 0, none⟩) n cap] 77)).alloc (.cells #[.int .i64 T] 3)).alloc (.cells #[.int .i64 F] 3)).alloc (.cells #[.int .i64 0, .int .i64 0, .slice none 0 0] 77) := ⟨_, rfl⟩
  have hs0 : W0.heap.size = w.heap.size + 4 := by rw [hW0]; simp
  have hb0 : Below w.heap.size w W0 := by rw [hW0]; exact ((((Below.refl _ _).alloc (Nat.le_refl _) _).alloc (by simp) _).alloc (by simp <;> omega) _).alloc (by simp <;> omega) _
  have hbox : W0.heap[w.heap.size]? = some (.cells #[.int .i64 R, .int .i64 C, .slice (some ⟨gg, 0, none⟩) n cap] 77 (0, 0)) := by
    rw [hW0, Below.heap_alloc _ _ _ (by simp <;> omega), Below.heap_alloc _ _ _ (by simp <;> omega)]; exact heap_alloc2_old _ _ _
  have hkb : W0.heap[w.heap.size + 1]? = some (.cells #[.int .i64 T] 3 (0, 0)) := by
    rw [hW0, Below.heap_alloc _ _ _ (by simp <;> omega), Below.heap_alloc _ _ _ (by simp)]; exact heap_alloc2_new _ _ _
  have hkc : W0.heap[w.heap.size + 1 + 1]? = some (.cells #[.int .i64 F] 3 (0, 0)) := by
    rw [hW0, Below.heap_alloc _ _ _ (by simp)]; exact heap_alloc3_new _ _ _ _
  have hres : W0.heap[w.heap.size + 1 + 1 + 1]? = some (.cells #[.int .i64 0, .int .i64 0, .slice none 0 0] 77 (0, 0)) := by
    rw [hW0]
    have := heap_alloc_new (((w.alloc (.cells #[.int .i64 R, .int .i64 C, .slice (some ⟨gg, 0, none⟩) n cap] 77)).alloc (.cells #[.int .i64 T] 3)).alloc (.cells #[.int .i64 F] 3)) (.cells #[.int .i64 0, .int .i64 0, .slice none 0 0] 77)
    simpa using this
  have h0 := h.keep hb0 (Nat.le_refl _)
  have hcon := newRelief_any R2 C2 107 #[.pointer (some ⟨w.heap.size, 0, none⟩), .pointer (some ⟨w.heap.size + 1, 0, none⟩), .pointer (some ⟨w.heap.size + 1 + 1, 0, none⟩)] (fun i => Z ((T + i / C2) * C + (F + i % C2))) W0 (by omega) (by omega) callFunc_part (fun r c W hr hc hbel => by
    obtain ⟨k0, k1, k2, _, _, _⟩ := cells3 ((hbel.block _ (by omega)).trans hbox)
    have kk := cell_of_one ((hbel.block _ (by omega)).trans hkb)
    have kc := cell_of_one ((hbel.block _ (by omega)).trans hkc)
    have hv := h0.keep hbel (Nat.le_refl _)
    have hlt : (T + r) * C + (F + c) < n := cell_lt h0.n_eq (by omega) (by omega)
    have hdz := div_at r c C2 hc
    have key := clos_part R C n gg cap w.heap.size T F r c ((T + r) * C + (F + c)) (Z ((T + r) * C + (F + c))) W k0 k1 k2 kk kc (by omega) (by omega) hR hC rfl hlt hn49 (hv.cell _ hlt)
    refine key.mono fun e w' hp => ⟨?_, hp.2⟩
    rw [hp.1]
    exact ret_int (by simp only [hdz.1, hdz.2]))
  have HC := Lib.hid hcon
  have HRES := Lib.hid hres
  have HB0 := Lib.hid hb0
  have HS0 := Lib.hid hs0
  rw [hW0] at HC
  clear hcon h0 hbox hkb hkc hres hb0 hs0 h
  go_enter Try.func95, Try.ntmps95
  go_wp2_with fail
  refine HC.out.mono ?_
  rintro e w2 ⟨n', gg', cap', xs, hn', rfl, hown, hval, hb2⟩
  have hb3 : Below W0.heap.size W0 w2 := by rw [hW0]; exact hb2
  have hown' := hown
  rw [← hW0] at hown'
  have R3 := (hb3.block (w.heap.size + 1 + 1 + 1) (by have := HS0.out; omega)).trans HRES.out
  obtain ⟨r0, r1, r2, g0, g1, g2⟩ := cells3 R3
  have hlo := (hown'.lt gg' rfl).1
  have hE := three_set w2 (w.heap.size + 1 + 1 + 1) _ _ _ (.int .i64 R2) (.int .i64 C2) (.slice (some ⟨gg', 0, none⟩) n' cap') R3
  have O1 := own3 hown' (x := w.heap.size + 1 + 1 + 1) (by have := HS0.out; omega) (.int .i64 R2) (.int .i64 C2) (.slice (some ⟨gg', 0, none⟩) n' cap')
  have B1 := below3 (HB0.out.trans (hb3.mono HB0.out.size)) (x := w.heap.size + 1 + 1 + 1) (by omega) (.int .i64 R2) (.int .i64 C2) (.slice (some ⟨gg', 0, none⟩) n' cap')
  have HRV := Lib.hid (show R2 * C2 = n' ∧ OwI w.heap.size _ _ (.slice (some ⟨gg', 0, none⟩) n' cap') n' (fun i => Z ((T + i / C2) * C + (F + i % C2))) from ⟨hn'.symm, own_owI2 O1 (by have := HS0.out; omega) hval (fun i hi => HZR.out i (by rw [← hn']; exact hi))⟩)
  have HE := Lib.hid hE
  have HB1 := Lib.hid B1
  clear hE R3 O1 B1 hown hown' hval hb2 hb3 hn' hW0
  go_wp2
  exact bodyPost_ret (results_cell_row rfl _ _ (w.heap.size + 1 + 1 + 1) _ #[.int .i64 R2, .int .i64 C2, .slice (some ⟨gg', 0, none⟩) n' cap'] _ _ rfl HE.out Try.underlying77 rfl Try.sizeRel) rfl ⟨n', gg', cap', rfl, HRV.out.1.symm, HRV.out.2, HB1.out⟩


def rowZ (C : Nat) (Z : Nat → Int) (r c : Nat) : Int := Z (r * C + c)

set_option maxHeartbeats 2000000 in
set_option maxRecDepth 20000 in
theorem row_any (R C n gg cap r : Nat) (Z : Nat → Int) (w : World) (h : Rv w R C n gg cap Z) (hR : R ≤ 7) (hC : C ≤ 7) (hr : r < R) (hz : ∀ i, i < R * C → 0 ≤ Z i ∧ Z i ≤ 99) :
    Calls Try.prog 78 #[.agg #[.int .i64 R, .int .i64 C, .slice (some ⟨gg, 0, none⟩) n cap], .int .i64 r] w (LgPost1 C (rowZ C Z r) w) := by
  have hb0 := (Below.refl w.heap.size w).alloc (Nat.le_refl _) (.cells #[.int .i64 R, .int .i64 C, .slice (some ⟨gg, 0, none⟩) n cap] 77)
  have HB0 := Lib.hid hb0
  have hzz : ∀ i, i < 1 * C → (r + i / C) * C + (0 + i % C) = r * C + i := fun i hi => by
    rw [Nat.one_mul] at hi
    rw [Nat.div_eq_of_lt hi, Nat.mod_eq_of_lt hi, Nat.add_zero, Nat.zero_add]
  have HZZ := Lib.hid hzz
  have HC := Lib.hid (show Calls Try.prog 95 #[.agg #[.int .i64 R, .int .i64 C, .slice (some ⟨gg, 0, none⟩) n cap], .int .i64 r, .int .i64 0, .int .i64 1, .int .i64 C] (w.alloc (.cells #[.int .i64 R, .int .i64 C, .slice (some ⟨gg, 0, none⟩) n cap] 77)) _ from
    part_own R C n gg cap r 0 1 C Z _ (h.keep hb0 (Nat.le_refl _)) hR hC (by omega) (by omega) (fun i hi => by
      rw [hzz i hi]
      exact hz _ (cell_lt rfl hr (by omega))))
  obtain ⟨d0, d1, d2, _, _, _⟩ := cells3 (heap_alloc_new w (.cells #[.int .i64 R, .int .i64 C, .slice (some ⟨gg, 0, none⟩) n cap] 77))
  have hfld : ∀ (a b : Int) (x : Option Addr) (m c : Nat) (W : World), (Instr.field 77 (.agg #[.int .i64 a, .int .i64 b, .slice x m c]) 2).run Try.prog W = .ok (.slice x m c) W := fun _ _ _ _ _ _ => rfl
  clear h hz hzz hb0
  go_enter Try.func78, Try.ntmps78
  go_wp2_with fail
  refine HC.out.mono ?_
  rintro e w1 ⟨n', gg', cap', rfl, hn', how, hb1⟩
  have HB1 := Lib.hid (HB0.out.trans (hb1.mono HB0.out.size))
  have HN := Lib.hid hn'
  have HOW := Lib.hid how
  have hs0 := HB0.out.size
  clear hb1 hn' how
  go_wp2
  go_ret
  have hn := HN.out
  rw [Nat.one_mul] at hn
  subst hn
  refine ⟨_, rfl, ⟨_, _, _, rfl⟩, ?_, HB1.out⟩
  exact OwI.congr (OwI.lower HOW.out HB0.out.size) (fun i hi => by rw [HZZ.out i (by omega)]; rfl)

/-- pairs in the first rows -/
noncomputable def pirN (C : Nat) (Z : Nat → Int) : Nat → Nat
  | 0 => 0
  | r + 1 => pirN C Z r + prN (rowZ C Z r) C
theorem pirN_le (C : Nat) (hC : C ≤ 7) (Z : Nat → Int) : ∀ r, pirN C Z r ≤ r * 49 := by
  intro r
  induction r with
  | zero => exact Nat.le_refl _
  | succ r ih =>
    have h1 := prN_le (rowZ C Z r) C
    have h2 := mul_le_49 hC hC
    simp only [pirN]
    omega

set_option maxHeartbeats 4000000 in
set_option maxRecDepth 20000 in
theorem pairsInRows_any (R C n gg cap : Nat) (Z : Nat → Int) (w : World) (h : Rv w R C n gg cap Z) (hR : R ≤ 7) (hC : C ≤ 7) (hC1 : 1 ≤ C) (hz : ∀ i, i < R * C → 0 ≤ Z i ∧ Z i ≤ 99) :
    Calls Try.prog 82 #[.agg #[.int .i64 R, .int .i64 C, .slice (some ⟨gg, 0, none⟩) n cap]] w (IntPost (pirN C Z R) w) := by
  have hb0 := (Below.refl w.heap.size w).alloc (Nat.le_refl _) (.cells #[.int .i64 R, .int .i64 C, .slice (some ⟨gg, 0, none⟩) n cap] 77)
  have HB0 := Lib.hid hb0
  have HROW := Lib.hid (fun (W : World) (hb : Below w.heap.size w W) (r : Nat) (hr : r < R) => row_any R C n gg cap r Z W (h.keep hb (Nat.le_refl _)) hR hC hr hz)
  have HOK := Lib.hid (fun (r : Nat) (hr : r < R) => show PrOk C (rowZ C Z r) from ⟨⟨hC1, by omega⟩, fun c hc => hz _ (cell_lt rfl hr hc)⟩)
  have hbox := heap_alloc_new w (.cells #[.int .i64 R, .int .i64 C, .slice (some ⟨gg, 0, none⟩) n cap] 77)
  obtain ⟨d0, d1, d2, _, _, _⟩ := cells3 hbox
  have HBOX := Lib.hid hbox
  have hs0 : (w.alloc (.cells #[.int .i64 R, .int .i64 C, .slice (some ⟨gg, 0, none⟩) n cap] 77)).heap.size = w.heap.size + 1 := by simp
  have HS0 := Lib.hid hs0
  clear h hz hb0 hbox hs0
  go_enter Try.func82, Try.ntmps82
  go_wp2
  go_loopw [3, 7] (fun o c wr => ∃ r : Nat, r ≤ R ∧ c = .int .i64 r ∧ o = .int .i64 (pirN C Z r) ∧ Below (w.heap.size + 1) (w.alloc (.cells #[.int .i64 R, .int .i64 C, .slice (some ⟨gg, 0, none⟩) n cap] 77)) wr) (fun _ c _ => R - (intOf c).toNat)
  case atStart => exact ⟨0, Nat.zero_le _, rfl, rfl, Below.refl _ _⟩
  case round =>
    obtain ⟨r, hr, rfl, rfl, hb⟩ := hrel
    clear d0 d1 d2
    have HBR := Lib.hid hb
    have HB1 := Lib.hid (HB0.out.trans (hb.mono (by omega)))
    obtain ⟨d0, d1, d2, _, _, _⟩ := cells3 ((hb.block w.heap.size (by omega)).trans HBOX.out)
    have hp := pirN_le C hC Z r
    have hszr := hb.size
    have HSZ := Lib.hid (show w.heap.size + 1 ≤ wr.heap.size by rw [← HS0.out]; exact hszr)
    clear hb hszr
    by_cases hlt : r < R
    · have hlt' : (r : Int) < R := by omega
      have HP := Lib.hid (show pirN C Z (r + 1) = pirN C Z r + prN (rowZ C Z r) C from rfl)
      have hq := prN_le (rowZ C Z r) C
      have h49 := mul_le_49 hC hC
      have HRA := Lib.hid (HROW.out _ HB1.out r hlt)
      have HOKR := Lib.hid (HOK.out r hlt)
      obtain ⟨P, eP⟩ : ∃ P, pirN C Z r = P := ⟨_, rfl⟩
      rw [eP] at hp HP ⊢
      clear eP
      go_wp2_with fail
      refine HRA.out.mono ?_
      rintro e w2 ⟨u, rfl, ⟨_, _, _, rfl⟩, how, hb2⟩
      have HB2 := Lib.hid (HBR.out.trans (hb2.mono HSZ.out))
      have HPA := Lib.hid (pairs_any _ _ _ C (rowZ C Z r) w2 how.rd HOKR.out (Nat.le_refl _))
      have HSZ2 := Lib.hid (Nat.le_trans HSZ.out hb2.size)
      obtain ⟨Q, eQ⟩ : ∃ Q, prN (rowZ C Z r) C = Q := ⟨_, rfl⟩
      rw [eQ] at hq HP HPA
      have hQ : Q ≤ 49 := by omega
      have hP : P ≤ 400 := by omega
      clear hb2 how eQ hq h49 hp HRA
      go_wp2_with fail
      refine HPA.out.mono ?_
      rintro e w3 ⟨rfl, hb3⟩
      have HB3 := Lib.hid (HB2.out.trans (hb3.mono HSZ2.out))
      clear hb3
      go_wp2
      go_roundw
      case rel => exact ⟨r + 1, by omega, by go_num, by rw [HP.out]; go_num, HB3.out⟩
      case measure => simp [intOf]; omega
    · obtain rfl : r = R := by omega
      go_wp2
      go_ret
      exact ⟨rfl, HB1.out⟩

/-- the row of a grid -/
noncomputable def rwN (g : G) (r : Int) : Nat := @ite _ (g.Cell r 0) (Classical.propDecidable _) (g.len 0) 0
theorem rwN_yes {g : G} {r : Int} (h : g.Cell r 0) : rwN g r = g.len 0 := by unfold rwN; rw [if_pos h]
theorem rwN_no {g : G} {r : Int} (h : ¬ g.Cell r 0) : rwN g r = 0 := by unfold rwN; rw [if_neg h]
theorem rwN_le (g : G) (r : Int) : rwN g r ≤ 7 := by
  by_cases h : g.Cell r 0
  · rw [rwN_yes h]; exact h.1.2.1.2
  · rw [rwN_no h]; omega

set_option maxHeartbeats 4000000 in
set_option maxRecDepth 20000 in
theorem implProfileRow_any (v : Value) (lo hi : Nat) (g : G) (r : Int) (w : World) (hv : RdM lo hi w v g) (hh : hi ≤ w.heap.size) :
    Calls Try.prog 43 #[v, .int .i64 r] w (LgPost (g.cB r 0) (rwN g r) (g.z r.toNat) w) := by
  by_cases h : g.Valid
  case neg =>
    have HC := Lib.hid (reliefOf_no v lo hi g w hv hh h)
    have HA := Lib.hid (G.cB_no (g := g) (r := r) (c := 0) (fun hc => h hc.1))
    have HN := Lib.hid (rwN_no (g := g) (r := r) (fun hc => h hc.1))
    clear hv h
    go_enter Try.func43, Try.ntmps43
    go_wp2_with fail
    refine HC.out.mono ?_
    rintro e w1 ⟨rfl, hb1⟩
    have HB1 := Lib.hid (hb1.alloc hb1.size (.cells #[.int .i64 0, .int .i64 0, .slice none 0 0] 77))
    clear hb1
    go_wp2
    go_ret2
    exact ⟨_, by rw [HA.out]; rfl, ⟨_, _, _, rfl⟩, by rw [HN.out]; exact OwI.none _ _ _ _, HB1.out⟩
  case pos =>
    have HC := Lib.hid (reliefOf_yes v lo hi g w hv hh h)
    have HH := Lib.hid h
    have hn7 := h.1.2
    have hl7 := h.2.1.2
    have hl1 := h.2.1.1
    clear hv h
    by_cases hcell : g.Cell r 0
    case neg =>
      have HA := Lib.hid (G.cB_no hcell)
      have HN := Lib.hid (rwN_no hcell)
      have HNH := Lib.hid (show ¬ (0 ≤ r ∧ r < g.n ∧ 0 ≤ (0 : Int) ∧ (0 : Int) < g.len 0) from fun hx => hcell ⟨HH.out, ⟨hx.1, by omega⟩, by omega, by omega⟩)
      clear hcell
      go_enter Try.func43, Try.ntmps43
      go_wp2_with fail
      refine HC.out.mono ?_
      intro e w1 hq
      obtain ⟨n, gg, cap, rfl, hrv, hb1⟩ := hq.rv
      have HB1 := Lib.hid (hb1.alloc hb1.size (.cells #[.int .i64 g.n, .int .i64 (g.len 0), .slice (some ⟨gg, 0, none⟩) n cap] 77))
      obtain ⟨d0, d1, d2, _, _, _⟩ := cells3 (heap_alloc_new w1 (.cells #[.int .i64 g.n, .int .i64 (g.len 0), .slice (some ⟨gg, 0, none⟩) n cap] 77))
      clear hq hrv hb1
      go_wp2_with fail
      refine (has_no g.n (g.len 0) n gg cap r 0 _ HNH.out).mono ?_
      rintro e w2 ⟨rfl, hb2⟩
      have HB2 := Lib.hid (HB1.out.trans (hb2.mono HB1.out.size))
      clear hb2
      go_wp2
      go_ret2
      exact ⟨_, by rw [HA.out]; rfl, ⟨_, _, _, rfl⟩, by rw [HN.out]; exact OwI.none _ _ _ _, HB2.out⟩
    case pos =>
      have HA := Lib.hid (G.cB_yes hcell)
      have HN := Lib.hid (rwN_yes hcell)
      obtain ⟨x, rfl⟩ : ∃ x : Nat, r = x := ⟨r.toNat, by have := hcell.2.1.1; omega⟩
      have hx : x < g.n := by have := hcell.2.1.2; omega
      clear hcell
      go_enter Try.func43, Try.ntmps43
      go_wp2_with fail
      refine HC.out.mono ?_
      intro e w1 hq
      obtain ⟨n, gg, cap, rfl, hrv, hb1⟩ := hq.rv
      have hba := (Below.refl w1.heap.size w1).alloc (Nat.le_refl _) (.cells #[.int .i64 g.n, .int .i64 (g.len 0), .slice (some ⟨gg, 0, none⟩) n cap] 77)
      have HB1 := Lib.hid (hb1.alloc hb1.size (.cells #[.int .i64 g.n, .int .i64 (g.len 0), .slice (some ⟨gg, 0, none⟩) n cap] 77))
      have HRV := Lib.hid (hrv.keep hba (Nat.le_refl _))
      have hbox := heap_alloc_new w1 (.cells #[.int .i64 g.n, .int .i64 (g.len 0), .slice (some ⟨gg, 0, none⟩) n cap] 77)
      obtain ⟨d0, d1, d2, _, _, _⟩ := cells3 hbox
      have HBOX := Lib.hid hbox
      clear hq hrv hb1 hba hbox
      go_wp2_with fail
      refine (has_yes g.n (g.len 0) n gg cap x 0 _ (by omega) (by omega) (by omega) (by omega)).mono ?_
      rintro e w2 ⟨rfl, hb2⟩
      have HB2 := Lib.hid (HB1.out.trans (hb2.mono HB1.out.size))
      have HRV2 := Lib.hid (HRV.out.keep hb2 (Nat.le_refl _))
      clear d0 d1 d2
      obtain ⟨d0, d1, d2, _, _, _⟩ := cells3 ((hb2.block w1.heap.size (by simp)).trans HBOX.out)
      clear hb2
      go_wp2_with fail
      refine (row_any g.n (g.len 0) n gg cap x g.flat w2 HRV2.out hn7 hl7 hx (fun i hi => flat_okR HH.out hi)).mono ?_
      rintro e w3 ⟨u, rfl, ⟨_, _, _, rfl⟩, how, hb3⟩
      have HB3 := Lib.hid (HB2.out.trans (hb3.mono HB2.out.size))
      have HOW := Lib.hid (OwI.congr (Z' := g.z x) (OwI.lower how HB2.out.size) (fun c hc => G.flat_at g x c hc))
      clear hb3 how
      go_wp2
      go_ret2
      exact ⟨_, by rw [HA.out]; rfl, ⟨_, _, _, rfl⟩, by rw [HN.out]; exact HOW.out, HB3.out⟩

end Go.Proofs.Ytgcebhmenffbjab
