/- The model's GridBelow. -/
import Derived.Test.YtdiehjigfmjjiaaSpecI
namespace Go.Proofs.Ytdiehjigfmjjiaa
open Go.RowKit
set_option linter.unusedVariables false

/-- what GridBelow asks -/
def BelowOk (a b : G) : Prop := a.Valid ∧ b.Valid ∧ (belowG a b).Valid

theorem below_valid {a b : G} (ha : a.Valid) (hb : b.Valid) : (belowG a b).Valid ↔ a.len 0 = b.len 0 ∧ a.n + b.n ≤ 7 := by
  have han : 1 ≤ a.n := ha.1.1
  have hbn : 1 ≤ b.n := hb.1.1
  have e0 : (belowG a b).len 0 = a.len 0 := by simp only [belowG]; rw [if_pos (by omega)]
  constructor
  · intro h
    refine ⟨?_, h.1.2⟩
    have h1 := (h.2.2 a.n (by show a.n < a.n + b.n; omega)).1
    rw [e0] at h1
    simp only [belowG, Nat.lt_irrefl, if_false, Nat.sub_self] at h1
    exact h1.symm
  · rintro ⟨h1, h2⟩
    refine ⟨⟨by show 1 ≤ a.n + b.n; omega, h2⟩, by rw [e0]; exact ha.2.1, fun r hr => ?_⟩
    have hr' : r < a.n + b.n := hr
    rw [e0]
    simp only [belowG]
    by_cases h3 : r < a.n
    · simp only [h3, if_true]; exact ha.2.2 r h3
    · simp only [h3, if_false, h1]; exact hb.2.2 (r - a.n) (by omega)

theorem below_range {a b : G} (ha : ∀ r, r < a.n → ∀ c, c < a.len r → -9223372036854775808 ≤ a.z r c ∧ a.z r c ≤ 9223372036854775807) (hb : ∀ r, r < b.n → ∀ c, c < b.len r → -9223372036854775808 ≤ b.z r c ∧ b.z r c ≤ 9223372036854775807) :
    ∀ r, r < (belowG a b).n → ∀ c, c < (belowG a b).len r → -9223372036854775808 ≤ (belowG a b).z r c ∧ (belowG a b).z r c ≤ 9223372036854775807 := by
  intro r hr c hc
  have hr' : r < a.n + b.n := hr
  by_cases h3 : r < a.n
  · simp only [belowG, h3, if_true] at hc ⊢; exact ha r h3 c hc
  · simp only [belowG, h3, if_false] at hc ⊢; exact hb (r - a.n) (by omega) c hc

theorem Gr.newsTop {w wr : World} {b n c B : Nat} {RV : Nat → Value} {g : G} (h : Gr w wr (.slice (some ⟨b, 0, none⟩) n c) n B RV g) :
    ∀ j u, ((List.range n).map RV)[j]? = some u → wr.cell? ((⟨b, 0, none⟩ : Addr).add j) = some u := by
  intro j u hj
  have hjn : j < n := by
    have := (List.getElem?_eq_some_iff.1 hj).1
    simpa using this
  have e : (⟨b, 0, none⟩ : Addr).add j = ⟨b, j, none⟩ := by unfold Addr.add; split <;> simp_all
  rw [e, h.top.cellAt j (by omega)]
  exact hj

theorem Gr.oneRow {w wr : World} {v : Value} {n B : Nat} {RV : Nat → Value} {g : G} (h : Gr w wr v n B RV g) : ∀ u ∈ (List.range n).map RV, u.oneCell' = true := by
  intro u hu
  obtain ⟨r, hr, rfl⟩ := List.mem_map.1 hu
  obtain ⟨ys, c1, _, _⟩ := h.rows r (List.mem_range.1 hr)
  obtain ⟨a, c, e⟩ := own_shape c1
  rw [e]; rfl

def BlwPost (a b : G) (w : World) (e : Ending) (w' : World) : Prop := (BelowOk a b → SPost true (belowG a b) w e w') ∧ (¬ BelowOk a b → SPost false G0 w e w')

set_option maxHeartbeats 8000000 in
set_option maxRecDepth 20000 in
theorem specGridBelow_any (v u : Value) (lo hi : Nat) (a b : G) (w : World) (hv : RdM lo hi w v a) (hu : RdM lo hi w u b) (hh : hi ≤ w.heap.size)
    (han : a.n ≤ 1048576) (hal : ∀ r, r < a.n → a.len r ≤ 1048576) (hbn : b.n ≤ 1048576) (hbl : ∀ r, r < b.n → b.len r ≤ 1048576) :
    Calls Try.prog 14 #[v, u] w (BlwPost a b w) := by
  have HV := Lib.hid (fun (W : World) (hb : Below w.heap.size w W) => specValid_any v lo hi a W (hv.same (SameIn.below hb hh)))
  have HU := Lib.hid (fun (W : World) (hb : Below w.heap.size w W) => specValid_any u lo hi b W (hu.same (SameIn.below hb hh)))
  have HCA := Lib.hid (l1CopyE_any v lo hi a w hv hh han hal)
  have HCB := Lib.hid (fun (W : World) (hb : Below w.heap.size w W) => l1CopyE_any u lo hi b W (hu.same (SameIn.below hb hh)) (Nat.le_trans hh hb.size) hbn hbl)
  have HRG := Lib.hid (below_range hv.range hu.range)
  obtain ⟨i1, hi1, hy0, hy1, hy2⟩ := info_parts Try.infoR
  clear hv hu hal hbl
  go_enter Try.func14, Try.ntmps14
  go_wp2_with fail
  refine HCA.out.mono ?_
  rintro e w1 ⟨ba, ca, BA, RA, rfl, hgA⟩
  have HGA := Lib.hid hgA
  clear hgA
  go_wp2_with fail
  refine (HCB.out _ HGA.out.below).mono ?_
  rintro e w2 ⟨bb, cb, BB, RB, rfl, hgB⟩
  have HGB := Lib.hid hgB
  have HGA2 := Lib.hid (HGA.out.keep (hgB.below.mono HGA.out.hi))
  have HTA := Lib.hid HGA2.out.top
  have HNB := Lib.hid hgB.newsTop
  have H1 := Lib.hid hgB.oneRow
  have hws : w.heap.size ≤ w2.heap.size := HGA2.out.below.size
  clear hgB
  go_wp2_with (at_builtin; refine wpList_append_own _ rfl _ _ 23 rfl w.heap.size 29 i1 (.slice none 0 0) 1 24 Try.underlying23 hi1 hy0 hy1 hy2 rfl (by decide) (.slice (some ⟨ba, 0, none⟩) a.n ca) a.n _ rfl HTA.out ⟨bb, 0, none⟩ b.n cb ((List.range b.n).map RB) rfl (by simp) HNB.out H1.out (by unfold maxLen; omega) (by omega) hws ?_; intro v3 w3 hown3 hg3 _)
  have hgJ := Gr.join HGA.out HGB.out hown3 hg3
  obtain ⟨aq, cq, rfl⟩ := own_shape hown3
  have HM := Lib.hid (Gr.rdM (g := belowG a b) hgJ HRG.out)
  have HB3 := Lib.hid hgJ.below
  clear hgJ hown3 hg3 hws
  go_wp2_with fail
  refine (HV.out _ HB3.out).mono ?_
  intro e w4 hq
  obtain ⟨rfl, hb4⟩ := hq.below
  have HM4 := Lib.hid (HM.out.keep hb4)
  have HB4 := Lib.hid (HB3.out.trans (hb4.mono HB3.out.size))
  have hs4 := hb4.size
  clear hb4 hq
  by_cases ha : a.Valid
  case neg =>
    rw [G.vB_no ha]
    have HNO := Lib.hid (show ¬ BelowOk a b from fun h => ha h.1)
    clear ha
    go_wp2
    go_ret2
    exact ⟨fun h => absurd h HNO.out, fun _ => ⟨_, rfl, ⟨_, _, _, rfl⟩, RdM.empty _ _ _ _ _ (by omega), HB4.out.alloc HB4.out.size _⟩⟩
  case pos =>
    rw [G.vB_yes ha]
    have HA := Lib.hid ha
    clear ha
    go_wp2_with fail
    refine (HU.out _ HB4.out).mono ?_
    intro e w5 hq
    obtain ⟨rfl, hb5⟩ := hq.below
    have HM5 := Lib.hid (HM4.out.keep (hb5.mono hs4))
    have HB5 := Lib.hid (HB4.out.trans (hb5.mono HB4.out.size))
    have hs5 := hb5.size
    clear hb5 hq
    by_cases hb : b.Valid
    case neg =>
      rw [G.vB_no hb]
      have HNO := Lib.hid (show ¬ BelowOk a b from fun h => hb h.2.1)
      clear hb
      go_wp2
      go_ret2
      exact ⟨fun h => absurd h HNO.out, fun _ => ⟨_, rfl, ⟨_, _, _, rfl⟩, RdM.empty _ _ _ _ _ (by omega), HB5.out.alloc HB5.out.size _⟩⟩
    case pos =>
      rw [G.vB_yes hb]
      have HB := Lib.hid hb
      clear hb
      go_wp2_with fail
      refine (specValid_any _ _ _ _ _ HM5.out).mono ?_
      intro e w6 hq
      obtain ⟨rfl, hb6⟩ := hq.below
      have HM6 := Lib.hid (HM5.out.keep (hb6.mono (Nat.le_trans hs4 hs5)))
      have HB6 := Lib.hid (HB5.out.trans (hb6.mono HB5.out.size))
      have hs6 := hb6.size
      clear hb6 hq
      by_cases hval : (belowG a b).Valid
      · rw [G.vB_yes hval]
        have HOK := Lib.hid (show BelowOk a b from ⟨HA.out, HB.out, hval⟩)
        clear hval
        go_wp2
        go_ret2
        exact ⟨fun _ => ⟨_, rfl, ⟨_, _, _, rfl⟩, HM6.out.mono (Nat.le_refl _) (by omega), HB6.out⟩, fun h => absurd HOK.out h⟩
      · rw [G.vB_no hval]
        have HNO := Lib.hid (show ¬ BelowOk a b from fun h => hval h.2.2)
        clear hval
        go_wp2
        go_ret2
        exact ⟨fun h => absurd h HNO.out, fun _ => ⟨_, rfl, ⟨_, _, _, rfl⟩, RdM.empty _ _ _ _ _ (by omega), HB6.out.alloc HB6.out.size _⟩⟩

end Go.Proofs.Ytdiehjigfmjjiaa
