/- WaterRun of the program and of the model. -/
import Derived.Test.YtjllmidagcniaaaCollect
import Derived.Test.YtjllmidagcniaaaM1
import Derived.Test.YtjllmidagcniaaaNextE
import Derived.Deep.Onto
namespace Go.Proofs.Ytjllmidagcniaaa
open Go.RowKit Go.Shelf
set_option linter.unusedVariables false

theorem Lists.owI {B : Nat} {w : World} {v : Value} {M : Nat} {l : List (Ix M)} (h : Lists B w v l) (hM : M ≤ 49) : OwI B w.heap.size w v l.length (ixZ l) := by
  obtain ⟨hlen, ⟨rfl, h0⟩ | ⟨b, cap, cur, rfl, hB, hb, hc, hcap, hcs, ht⟩⟩ := h
  · exact Or.inl ⟨rfl, h0⟩
  · have hlt : b < w.heap.size := (Array.getElem?_eq_some_iff.1 hb).1
    refine Or.inr ⟨b, cur.size, cap, fun i => (cur[i]?).getD (.int .i64 0), rfl, hB, hlt, ⟨cur, hb, rfl, fun i hi => by simp [hi]⟩, by rw [hcs]; omega, hc, hcap, fun i hi => ?_, fun i hi => ?_⟩
    · have e1 : cur.toList[i]? = (ixV l)[i]? := by rw [← ht, List.getElem?_take_of_lt (by omega)]
      have e2 : cur[i]? = some (.int .i64 (ixZ l i)) := by rw [← Array.getElem?_toList, e1, ixZ_at _ hi]; simp [ixV, hi]
      show (cur[i]?).getD _ = _
      rw [e2]; rfl
    · rw [ixZ_at _ hi]; have := l[i].2; omega

open Classical in
noncomputable def G.runV (g : G) (r c : Int) : List (Ix (g.n * g.len 0)) := if h : g.Cell r c then runL g.n (g.len 0) g.flat ⟨r.toNat * g.len 0 + c.toNat, wn_lt h⟩ else []
theorem G.runV_no {g : G} {r c : Int} (h : ¬ g.Cell r c) : g.runV r c = [] := by unfold G.runV; rw [dif_neg h]
theorem G.runV_yes {g : G} {r c : Nat} (h : g.Cell r c) (i : Ix (g.n * g.len 0)) (hi : i.1 = r * g.len 0 + c) : g.runV r c = runL g.n (g.len 0) g.flat i := by
  unfold G.runV
  rw [dif_pos h]
  have e : (⟨(r : Int).toNat * g.len 0 + (c : Int).toNat, wn_lt h⟩ : Ix (g.n * g.len 0)) = i := Subtype.ext (by rw [hi]; simp)
  rw [e]

/-- a list of indexes and a bool -/
def LbPost {M : Nat} (b : Bool) (l : List (Ix M)) (w : World) (e : Ending) (w' : World) : Prop :=
  ∃ v, e = .returned (.tuple #[v, .bool b]) ∧ Lists w.heap.size w' v l ∧ Below w.heap.size w w'

theorem lists_nil {M : Nat} (B : Nat) (w : World) : Lists B w (.slice none 0 0) ([] : List (Ix M)) := World.ownsRow_nil _ _ _ _

theorem LbPost.mk' {M : Nat} {b : Bool} {L l : List (Ix M)} {w w' : World} {v : Value} (e : L = l) (h : Lists w.heap.size w' v l) (hb : Below w.heap.size w w') : LbPost b L w (.returned (.tuple #[v, .bool b])) w' := ⟨v, rfl, e ▸ h, hb⟩

/-- the run as an iterator at rest: what Collect asks -/
theorem run_seq (R C gg cap cnt : Nat) (hR : R ≤ 7) (hC : C ≤ 7) (Z : Nat → Int) (hZ : ∀ x, x < R * C → 0 ≤ Z x ∧ Z x ≤ 99) (i : Ix (R * C)) (w w' : World) (hrv : Rv w R C cnt gg cap Z)
    (hw' : w' = (w.alloc (.cells #[.int .i64 R, .int .i64 C, .slice (some ⟨gg, 0, none⟩) cnt cap] 58)).alloc (.cells #[.int .i64 i.1] 3)) :
    Calls Try.prog 78 #[.func (.func 98) #[] #[.pointer (some ⟨w.heap.size + 1, 0, none⟩), .pointer (some ⟨w.heap.size, 0, none⟩)]] w' (CoPost (runL R C Z i) w') := by
  have e1 : (w.alloc (.cells #[.int .i64 R, .int .i64 C, .slice (some ⟨gg, 0, none⟩) cnt cap] 58)).heap.size = w.heap.size + 1 := by simp
  have hb : Below w.heap.size w w' := by rw [hw']; exact ((Below.refl _ _).alloc (Nat.le_refl _) _).alloc (by simp) _
  have hsz : w'.heap.size = w.heap.size + 2 := by rw [hw']; simp
  have k1 : w'.heap[w.heap.size]? = some (.cells #[.int .i64 R, .int .i64 C, .slice (some ⟨gg, 0, none⟩) cnt cap] 58 (0, 0)) := by
    rw [hw']; exact (Below.heap_alloc _ _ _ (by omega)).trans (heap_alloc_new w _)
  have k2 : w'.heap[w.heap.size + 1]? = some (.cells #[.int .i64 i.1] 3 (0, 0)) := by
    rw [hw']; have := heap_alloc_new (w.alloc (.cells #[.int .i64 R, .int .i64 C, .slice (some ⟨gg, 0, none⟩) cnt cap] 58)) (.cells #[.int .i64 i.1] 3); rw [e1] at this; exact this
  have hgl := hrv.lt
  have hlen := runL_len R C Z i
  exact collect_any 98 #[.pointer (some ⟨w.heap.size + 1, 0, none⟩), .pointer (some ⟨w.heap.size, 0, none⟩)] (enters_of Try.func98 (by kernel_rfl) rfl) w.heap.size gg (runL R C Z i) _ _ (by omega) w' (by omega) (by omega)
    (run_stops 4 (by omega) (w.heap.size + 1) w.heap.size R C gg cap cnt hR hC Z hZ i w' (by omega) (by omega) (one_cell k2) (three_cells k1) (hrv.keep hb (Nat.le_refl _)))

set_option maxHeartbeats 4000000 in
set_option maxRecDepth 100000 in
theorem implWaterRun_any (v : Value) (lo hi : Nat) (g : G) (r c : Int) (w : World) (hv : RdM lo hi w v g) (hh : hi ≤ w.heap.size) (b : Bool) (hbb : b = true ↔ g.Cell r c) :
    Calls Try.prog 47 #[v, .int .i64 r, .int .i64 c] w (LbPost b (g.runV r c) w) := by
  by_cases h : g.Valid
  case neg =>
    have HC := Lib.hid (reliefOf_no v lo hi g w hv hh h)
    have HA := Lib.hid (G.runV_no (g := g) (r := r) (c := c) (fun hc => h hc.1))
    obtain rfl : b = false := by cases b; rfl; exact absurd (hbb.1 rfl).1 h
    clear hv h hbb
    go_enter Try.func47, Try.ntmps47
    go_wp2_with fail
    refine HC.out.mono ?_
    rintro e w1 ⟨rfl, hb1⟩
    go_wp2
    go_ret2
    exact LbPost.mk' HA.out (lists_nil _ _) (hb1.alloc hb1.size _)
  case pos =>
    have HC := Lib.hid (reliefOf_yes v lo hi g w hv hh h)
    have HH := Lib.hid h
    clear hv h
    by_cases hcell : g.Cell r c
    case neg =>
      have HA := Lib.hid (G.runV_no hcell)
      obtain rfl : b = false := by cases b; rfl; exact absurd (hbb.1 rfl) hcell
      have hnh : ¬ (0 ≤ r ∧ r < g.n ∧ 0 ≤ c ∧ c < g.len 0) := fun hx => hcell ⟨HH.out, ⟨hx.1, by omega⟩, hx.2.2.1, by omega⟩
      clear hcell hbb
      go_enter Try.func47, Try.ntmps47
      go_wp2_with fail
      refine HC.out.mono ?_
      intro e w1 hq
      obtain ⟨n, gg, cap, rfl, hrv, hb1⟩ := hq.rv
      have HB1 := Lib.hid (hb1.alloc hb1.size (.cells #[.int .i64 g.n, .int .i64 (g.len 0), .slice (some ⟨gg, 0, none⟩) n cap] 58))
      clear hq hrv hb1
      go_wp2_with fail
      refine (has_no g.n (g.len 0) n gg cap r c _ hnh).mono ?_
      rintro e w2 ⟨rfl, hb2⟩
      have HB2 := Lib.hid (HB1.out.trans (hb2.mono HB1.out.size))
      clear hb2
      go_wp2
      go_ret2
      exact LbPost.mk' HA.out (lists_nil _ _) HB2.out
    case pos =>
      obtain rfl : b = true := hbb.2 hcell
      obtain ⟨r, rfl⟩ := Int.eq_ofNat_of_zero_le hcell.2.1.1
      obtain ⟨c, rfl⟩ := Int.eq_ofNat_of_zero_le hcell.2.2.1
      have hr : r < g.n := by have := hcell.2.1.2; omega
      have hc : c < g.len 0 := by have := hcell.2.2.2; omega
      have HZ := Lib.hid (fun x (hx : x < g.n * g.len 0) => flat_okW HH.out hx)
      have hn7 := HH.out.1.2
      have hl7 := HH.out.2.1.2
      have hlt : r * g.len 0 + c < g.n * g.len 0 := cell_lt rfl hr hc
      obtain ⟨i, hi'⟩ : ∃ i : Ix (g.n * g.len 0), i.1 = r * g.len 0 + c := ⟨⟨_, hlt⟩, rfl⟩
      have HA := Lib.hid (G.runV_yes hcell i hi')
      have hmi : (r : Int) * (g.len 0 : Int) + c = (i.1 : Int) := by rw [hi', Int.natCast_add, Int.natCast_mul]
      have hp0 : (0 : Int) ≤ (r : Int) * (g.len 0 : Int) := Int.mul_nonneg (by omega) (by omega)
      have h49 := mul_le_49 hn7 hl7
      have hi48 := i.2
      have hp1 : (r : Int) * (g.len 0 : Int) ≤ 1000 := by omega
      have HMI := Lib.hid hmi
      clear hcell hmi hi' hlt hbb
      go_enter Try.func47, Try.ntmps47
      go_wp2_with fail
      refine HC.out.mono ?_
      intro e w1 hq
      obtain ⟨n, gg, cap, rfl, hrv, hb1⟩ := hq.rv
      have hloc := heap_alloc_new w1 (.cells #[.int .i64 g.n, .int .i64 (g.len 0), .slice (some ⟨gg, 0, none⟩) n cap] 58)
      have HLOC := Lib.hid hloc
      have HB1 := Lib.hid (hb1.alloc hb1.size (.cells #[.int .i64 g.n, .int .i64 (g.len 0), .slice (some ⟨gg, 0, none⟩) n cap] 58))
      have HRV := Lib.hid (hrv.keep ((Below.refl w1.heap.size w1).alloc (Nat.le_refl _) (.cells #[.int .i64 g.n, .int .i64 (g.len 0), .slice (some ⟨gg, 0, none⟩) n cap] 58)) (Nat.le_refl _))
      clear hq hrv hb1 hloc
      go_wp2_with fail
      refine (has_yes g.n (g.len 0) n gg cap r c _ (by omega) (by omega) (by omega) (by omega)).mono ?_
      rintro e w2 ⟨rfl, hb2⟩
      have HRV2 := Lib.hid (HRV.out.keep hb2 (Nat.le_refl _))
      obtain ⟨k0, k1, k2, _, _, _⟩ := cells3 ((hb2.block w1.heap.size (by simp)).trans HLOC.out)
      have hw1 : w1.heap.size < w2.heap.size := by have := hb2.size; simp at this; omega
      have HB2 := Lib.hid (HB1.out.trans (hb2.mono HB1.out.size))
      have HK := Lib.hid (show (w2.heap[w1.heap.size]?) = _ from (hb2.block w1.heap.size (by simp)).trans HLOC.out)
      clear hb2
      go_wp2_with fail
      go_region_held3 (fun w' => w'.cell? ⟨w1.heap.size, 0, none⟩ = some (.int .i64 g.n) ∧ w'.cell? ⟨w1.heap.size, 1, none⟩ = some (.int .i64 (g.len 0)) ∧ w'.cell? ⟨w1.heap.size, 2, none⟩ = some (.slice (some ⟨gg, 0, none⟩) n cap)) (first | go_keep | exact ⟨s0, s1, s2⟩)
        (first
          | (go_at_call 70; (refine (index_any g.n (g.len 0) n gg cap r c i.1 _ HMI.out hp0 hp1 (by omega)).mono ?_); rintro e w3 ⟨rfl, hb3⟩; have hbu := hb3.undrew; obtain ⟨s0, s1, s2, _, _, _⟩ := cells3 ((hbu.block w1.heap.size hw1).trans HK.out); have HB3 := Lib.hid hbu; clear hb3 hbu)
          | (go_at_call 79; (refine (run_any g.n (g.len 0) gg n cap i.1 _).mono ?_); rintro e w4 ⟨rfl, hw4⟩; have hb4 := (show Below _ _ w4 from hw4 ▸ ((Below.refl _ _).alloc (Nat.le_refl _) _).alloc (by simp) _); obtain ⟨s0, s1, s2, _, _, _⟩ := cells3 ((hb4.block w1.heap.size (Nat.lt_of_lt_of_le hw1 HB3.out.size)).trans ((HB3.out.block w1.heap.size hw1).trans HK.out)); have HB4 := Lib.hid hb4; have HW4 := Lib.hid hw4; clear hb4 hw4)
          | (go_at_call 78; (refine (run_seq g.n (g.len 0) gg cap n hn7 hl7 g.flat HZ.out i _ _ (HRV2.out.keep HB3.out (Nat.le_refl _)) HW4.out).mono ?_); rintro e w5 ⟨v5, rfl, hl5, hb5⟩; obtain ⟨s0, s1, s2, _, _, _⟩ := cells3 ((hb5.block w1.heap.size (Nat.lt_of_lt_of_le hw1 (Nat.le_trans HB3.out.size HB4.out.size))).trans ((HB4.out.block w1.heap.size (Nat.lt_of_lt_of_le hw1 HB3.out.size)).trans ((HB3.out.block w1.heap.size hw1).trans HK.out))); have HB5 := Lib.hid hb5; have HL5 := Lib.hid hl5; clear hb5 hl5))
      all_goals go_wp2
      all_goals go_ret2
      all_goals exact LbPost.mk' HA.out (World.ownsRow.mono HL5.out (Nat.le_trans HB2.out.size (Nat.le_trans HB3.out.size HB4.out.size))) (HB2.out.trans ((HB3.out.trans ((HB4.out.trans (HB5.out.mono HB4.out.size)).mono HB3.out.size)).mono HB2.out.size))

end Go.Proofs.Ytjllmidagcniaaa
