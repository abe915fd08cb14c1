/- The draw of a list of labels. -/
import Derived.Test.YthelaffjpmcdbaaDrawD
import Derived.Test.YthelaffjpmcdbaaLf
import Derived.Test.YthelaffjpmcdbaaLc
import Derived.Maps.AppendAt
namespace Go.Proofs.Ythelaffjpmcdbaa
open Go.RowKit
set_option linter.unusedVariables false
set_option linter.unusedSimpArgs false

/-- while labels are drawn: the list so far, the reader -/
structure Lm (B N0 : Nat) (w wr : World) (b cap m : Nat) (Z : Nat → Int) (q : Nat) : Prop where
  labs : Labs N0 wr (.slice (some ⟨b, 0, none⟩) m cap) m Z
  ok : LsOk m Z
  bN : B < N0 ∧ N0 ≤ wr.heap.size
  rd : Rdr wr B q
  chg : Chg B (B + 1) w wr
  nw : w.heap.size = N0
theorem Lm.pick {B N0 : Nat} {w wr w2 : World} {b cap m : Nat} {Z : Nat → Int} {q q2 : Nat} (h : Lm B N0 w wr b cap m Z q) (hr : Rdr w2 B q2) (hc : Chg B (B + 1) wr w2) : Lm B N0 w w2 b cap m Z q2 := by
  have hb := h.bN
  exact ⟨ownsRow_same h.labs (fun k h1 h2 => hc.block k h2 (by omega)), h.ok, ⟨hb.1, Nat.le_trans hb.2 hc.size⟩, hr, h.chg.trans hc, h.nw⟩
theorem labs_block {N0 : Nat} {w : World} {b cap m : Nat} {Z : Nat → Int} (h : Labs N0 w (.slice (some ⟨b, 0, none⟩) m cap) m Z) : N0 ≤ b ∧ b < w.heap.size := h.lt b rfl
theorem labs_len4 (Z : Nat → Int) (m : Nat) : (nsV (fnL Z (m * 4))).length = m * 4 := by simp [nsV, fnL_len]
theorem labs_news {N0 : Nat} {w W : World} {b cap m : Nat} {Z : Nat → Int} (h : Labs N0 w (.slice (some ⟨b, 0, none⟩) m cap) m Z) (hr : ∀ j, j < m * 4 → -9223372036854775808 ≤ Z j ∧ Z j ≤ 9223372036854775807) (hW : W.heap[b]? = w.heap[b]?) :
    ∀ j u, (nsV (fnL Z (m * 4)))[j]? = some u → W.cell? ((⟨b, 0, none⟩ : Addr).add j) = some u := by
  intro j u hu
  have hj : j < m * 4 := by
    have := (List.getElem?_eq_some_iff.1 hu).1
    rwa [labs_len4] at this
  rw [nsV_at _ _ (by rw [fnL_len]; exact hj), fnL_z Z _ j hj] at hu
  simp only [Option.some.injEq] at hu
  subst hu
  rcases h.owT hr with ⟨h1, _⟩ | ⟨b', N, cap', F, h1, h2, h3, h4, h5, h6, h7, h8, h9⟩
  · cases h1
  · simp only [Value.slice.injEq, Option.some.injEq, Addr.mk.injEq, and_true, true_and] at h1
    obtain ⟨rfl, rfl⟩ := h1
    have hc := h4.cell (i := j) (by omega)
    rw [h8 j hj] at hc
    have e : (⟨b, 0, none⟩ : Addr).add j = ⟨b, j, none⟩ := by by_cases h0 : j = 0 <;> simp [Addr.add, h0]
    rw [e]
    exact (World.cell?_of_block (a := ⟨b, j, none⟩) hW).trans hc
theorem labs_one (Z : Nat → Int) (m : Nat) : ∀ u ∈ nsV (fnL Z (m * 4)), u.oneCell' = true := by
  intro u hu
  simp only [nsV, List.mem_map] at hu
  obtain ⟨x, _, rfl⟩ := hu
  rfl
/-- one label more -/
def fourZ (Z : Nat → Int) (m : Nat) (x y a g : Int) (j : Nat) : Int := if j = m * 4 + 3 then g else if j = m * 4 + 2 then a else if j = m * 4 + 1 then y else if j = m * 4 then x else Z j
theorem fourZ_old {Z : Nat → Int} {m : Nat} {x y a g : Int} {j : Nat} (h : j < m * 4) : fourZ Z m x y a g j = Z j := by unfold fourZ; rw [if_neg (by omega), if_neg (by omega), if_neg (by omega), if_neg (by omega)]
theorem fnL_eq {Z Z' : Nat → Int} : ∀ k, (∀ j, j < k → Z j = Z' j) → fnL Z k = fnL Z' k
  | 0, _ => rfl
  | k + 1, e => by simp only [fnL]; rw [fnL_eq k (fun j hj => e j (by omega)), e k (by omega)]
theorem labs_four {B : Nat} {w : World} {v : Value} {m : Nat} {Z : Nat → Int} {x y a g : Int} (h : w.ownsRow B 28 4 v (m + 1) (nsV (fnL Z (m * 4)) ++ [.int .i64 x, .int .i64 y, .int .i64 a, .int .i64 g])) : Labs B w v (m + 1) (fourZ Z m x y a g) := by
  refine labs_push (a := x) (b := y) (c := a) (d := g) ?_ (by simp [fourZ]) (by simp [fourZ]) (by simp [fourZ]) (by simp [fourZ])
  rw [fnL_eq (m * 4) (fun j hj => fourZ_old hj)]
  exact h
theorem labs_shape {B : Nat} {w : World} {v : Value} {m : Nat} {Z : Nat → Int} (h : Labs B w v (m + 1) Z) : ∃ b cap, v = .slice (some ⟨b, 0, none⟩) (m + 1) cap := by
  rcases h.2 with ⟨rfl, h0⟩ | ⟨g, cap, cur, rfl, _⟩
  · omega
  · exact ⟨_, _, rfl⟩
theorem four_range {Z : Nat → Int} {m : Nat} {x y a g : Int} {lo hi : Int} (h : ∀ j, j < m * 4 → lo ≤ Z j ∧ Z j ≤ hi) (hx : lo ≤ x ∧ x ≤ hi) (hy : lo ≤ y ∧ y ≤ hi) (ha : lo ≤ a ∧ a ≤ hi) (hg : lo ≤ g ∧ g ≤ hi) : ∀ j, j < (m + 1) * 4 → lo ≤ fourZ Z m x y a g j ∧ fourZ Z m x y a g j ≤ hi := by
  intro j hj
  unfold fourZ
  split
  · exact hg
  split
  · exact ha
  split
  · exact hy
  split
  · exact hx
  · exact h j (by omega)
theorem ls_zero (Z : Nat → Int) : LsOk 0 Z := ⟨by omega, fun i h => by omega⟩
theorem labs_base {S0 N0 : Nat} {w : World} {v : Value} {m : Nat} {Z : Nat → Int} (h : Labs S0 w v m Z) (hN : N0 ≤ S0) : Labs N0 w v m Z := by
  refine ⟨h.1, ?_⟩
  rcases h.2 with h2 | ⟨g, cap, cur, hv, hg, r⟩
  · exact Or.inl h2
  · exact Or.inr ⟨g, cap, cur, hv, by omega, r⟩
theorem two_at {w : World} {b y : Nat} {a c : Int} {t : TypeId} (h : w.heap[b]? = some (.cells #[.int .i64 a, .int .i64 c] t (0, 0))) (hy : y < 2) : w.cell? ⟨b, y, none⟩ = some (.int .i64 (if y = 0 then a else c)) := by
  rcases (by omega : y = 0 ∨ y = 1) with rfl | rfl <;> simp [World.cell?, h]
theorem owT_own {lo : Nat} {w : World} {b cap m : Nat} {Z : Nat → Int} (h : Labs lo w (.slice (some ⟨b, 0, none⟩) m cap) m Z) (hr : ∀ j, j < m * 4 → -9223372036854775808 ≤ Z j ∧ Z j ≤ 9223372036854775807) : OwT lo w.heap.size w (.slice (some ⟨b, 0, none⟩) m cap) m Z := h.owT hr
/-- one field of a list of its own is changed -/
theorem owT_set {lo hi : Nat} {w : World} {b cap m : Nat} {Z : Nat → Int} (h : OwT lo hi w (.slice (some ⟨b, 0, none⟩) m cap) m Z) {y : Nat} (hy : y < m * 4) {u : Int} (hu : -9223372036854775808 ≤ u ∧ u ≤ 9223372036854775807) :
    OwT lo hi (w.setCell ⟨b, y, none⟩ (.int .i64 u)) (.slice (some ⟨b, 0, none⟩) m cap) m (fun j => if j = y then u else Z j) := by
  rcases h with ⟨h1, _⟩ | ⟨b', N, cap', F, h1, h2, h3, h4, h5, h6, h7, h8, h9⟩
  · cases h1
  · simp only [Value.slice.injEq, Option.some.injEq, Addr.mk.injEq, and_true, true_and] at h1
    obtain ⟨rfl, rfl⟩ := h1
    refine Or.inr ⟨b, N, cap, _, rfl, h2, h3, h4.set y (.int .i64 u), h5, h6, h7, fun i hi => ?_, fun i hi => ?_⟩
    · try dsimp only
      by_cases e : i = y
      · rw [if_pos e, if_pos e]
      · rw [if_neg e, if_neg e]; exact h8 i hi
    · try dsimp only
      by_cases e : i = y
      · rw [if_pos e]; exact hu
      · rw [if_neg e]; exact h9 i hi
theorem owT_at {lo hi : Nat} {w : World} {b cap m : Nat} {Z : Nat → Int} (h : OwT lo hi w (.slice (some ⟨b, 0, none⟩) m cap) m Z) {y : Nat} (hy : y < m * 4) : w.cell? ⟨b, y, none⟩ = some (.int .i64 (Z y)) ∧ w.frozen? ⟨b, y, none⟩ = false ∧ (lo ≤ b ∧ b < hi) ∧ m ≤ cap ∧ cap ≤ 9223372036854775807 := by
  rcases h with ⟨h1, _⟩ | ⟨b', N, cap', F, h1, h2, h3, h4, h5, h6, h7, h8, h9⟩
  · cases h1
  · simp only [Value.slice.injEq, Option.some.injEq, Addr.mk.injEq, and_true, true_and] at h1
    obtain ⟨rfl, rfl⟩ := h1
    have e := h4.cell (i := y) (by omega)
    rw [h8 y hy] at e
    exact ⟨e, h4.frozen y, ⟨h2, h3⟩, h6, h7⟩
theorem owT_keepB {lo hi : Nat} {w w' : World} {b cap m : Nat} {Z : Nat → Int} (h : OwT lo hi w (.slice (some ⟨b, 0, none⟩) m cap) m Z) (hs : w'.heap[b]? = w.heap[b]?) (hi' : Nat) (hb : b < hi') : OwT lo hi' w' (.slice (some ⟨b, 0, none⟩) m cap) m Z := by
  rcases h with ⟨h1, _⟩ | ⟨b', N, cap', F, h1, h2, h3, h4, h5⟩
  · cases h1
  · simp only [Value.slice.injEq, Option.some.injEq, Addr.mk.injEq, and_true, true_and] at h1
    obtain ⟨rfl, rfl⟩ := h1
    exact Or.inr ⟨b, N, cap, F, rfl, h2, hb, h4.of_block hs, h5⟩
/-- what a drawn list of labels leaves -/
def LdPost (B q : Nat) (w : World) (e : Ending) (w' : World) : Prop :=
  ∃ b cap m Z q', e = .returned (.slice (some ⟨b, 0, none⟩) m cap) ∧ OwT w.heap.size w'.heap.size w' (.slice (some ⟨b, 0, none⟩) m cap) m Z ∧ m ≤ 7 ∧ (∀ j, j < m * 4 → -100 ≤ Z j ∧ Z j ≤ 100) ∧ q' ≤ q + 40 ∧ Rdr w' B q' ∧ Chg B (B + 1) w w'

set_option maxHeartbeats 16000000 in
set_option maxRecDepth 100000 in
theorem labels_any (B q most : Nat) (w : World) (h : Rdr w B q) (hB : B < w.heap.size) (hq : q ≤ 1000) (hmo : most ≤ 6) :
    Calls Try.prog 45 #[.pointer (some ⟨B, 0, none⟩), .int .i64 most] w (LdPost B q w) := by
  obtain ⟨i0, hi0, hz0, hz1, hz2⟩ := info_parts Try.infoLb
  have HL0 := Lib.hid (show Labs w.heap.size (w.alloc (.cells #[] 28)) (.slice (some ⟨w.heap.size, 0, none⟩) 0 0) 0 (fun _ => 0) from labs_lit w _)
  have HB0 := Lib.hid (show Below w.heap.size w (w.alloc (.cells #[] 28)) from (Below.refl _ _).alloc (Nat.le_refl _) _)
  have hs0 : (w.alloc (.cells #[] 28)).heap.size = w.heap.size + 1 := by simp
  have HR0 := Lib.hid (h.keep HB0.out hB)
  clear h
  generalize hW0 : w.alloc (.cells #[] 28) = W0 at HL0 HB0 hs0 HR0
  have HM0 := Lib.hid (show Lm B w.heap.size w W0 w.heap.size 0 0 (fun _ => 0) q from ⟨HL0.out, ls_zero _, ⟨hB, by omega⟩, HR0.out, HB0.out.chg B (B + 1), rfl⟩)
  obtain ⟨P, eP⟩ : ∃ P, most + 1 = P := ⟨_, rfl⟩
  have hP : (most : Int) + 1 = (P : Int) := by omega
  have hP7 : 1 ≤ P ∧ P ≤ 7 := by omega
  clear HL0 eP
  go_enter Try.func45, Try.ntmps45
  go_wp2_with fail
  try rw [hW0]
  refine (pick_any B q P W0 HM0.out.rd (by omega) (by omega) (by omega)).mono ?_
  rintro e w1 ⟨n, hn, rfl, hr1, hc1, hs1⟩
  have HM1 := Lib.hid (HM0.out.pick hr1 hc1)
  clear hr1 hc1 hs1 HM0 hW0 HR0 HB0 hs0
  go_wp2_with fail
  refine (pick_any B (q + 1) 6 w1 HM1.out.rd (by omega) (by omega) (by omega)).mono ?_
  rintro e w2 ⟨x, hx, rfl, hr2, hc2, hs2⟩
  have HM2 := Lib.hid (HM1.out.pick hr2 hc2)
  clear hr2 hc2 hs2 HM1
  go_wp2_with fail
  refine (pick_any B (q + 1 + 1) 6 w2 HM2.out.rd (by omega) (by omega) (by omega)).mono ?_
  rintro e w3 ⟨y, hy, rfl, hr3, hc3, hs3⟩
  have HM3 := Lib.hid (HM2.out.pick hr3 hc3)
  clear hr3 hc3 hs3 HM2 hP
  have hn6 : n ≤ 6 := by omega
  go_wp2
  go_loopw [5, 9] (fun o i wr => ∃ (k m q' b cap : Nat) (Z : Nat → Int), k ≤ n ∧ i = .int .i64 k ∧ o = .slice (some ⟨b, 0, none⟩) m cap ∧ m ≤ k ∧ q' ≤ q + 3 + 4 * k ∧ Lm B w.heap.size w wr b cap m Z q') (fun _ i => fun _ => n - (intOf i).toNat)
  case atStart => exact ⟨0, 0, q + 1 + 1 + 1, _, _, _, Nat.zero_le _, rfl, rfl, Nat.le_refl _, by omega, HM3.out⟩
  case round =>
    clear HM3
    obtain ⟨k, m, q', b, cap, Z, hk, rfl, rfl, hm, hq', hlm⟩ := hrel
    have HLM := Lib.hid hlm
    have hrng := ls_range hlm.ok
    have hblk := labs_block hlm.labs
    have hbn := hlm.bN
    have HRNG := Lib.hid hrng
    clear hrng
    by_cases hlt : k < n
    · have hlt' : (k : Int) < n := by omega
      obtain ⟨S0, eS0⟩ : ∃ S0, wr.heap.size = S0 := ⟨_, rfl⟩
      have ES0 := Lib.hid eS0
      have HLI := Lib.hid (show (wr.alloc (.cells #[] 28)).ownsRow S0 28 4 (.slice (some ⟨S0, 0, none⟩) 0 0) 0 [] from by subst eS0; exact World.ownsRow_lit wr #[] 0 (Nat.le_refl _) (Nat.zero_le _) (by simp))
      have HNW := Lib.hid (labs_news (W := wr.alloc (.cells #[] 28)) hlm.labs (fun j hj => by have := HRNG.out j hj; omega) (Below.heap_alloc wr _ b hblk.2))
      have hm6 := hlm.ok.1
      have hsz1 : (wr.alloc (.cells #[] 28)).heap.size = S0 + 1 := by rw [World.size_alloc]; omega
      have HBA := Lib.hid ((Below.refl wr.heap.size wr).alloc (Nat.le_refl _) (.cells #[] 28))
      clear hlm
      have hl4 : (nsV (fnL Z (m * 4))).length = m * 4 := labs_len4 Z m
      go_wp2_with (first | (at_builtin; refine wpList_append_own _ rfl _ _ 23 rfl S0 28 i0 _ 4 32 Try.underlying23 hi0 hz0 hz1 hz2 rfl (by decide) (.slice (some ⟨S0, 0, none⟩) 0 0) 0 [] (by simp [← ES0.out]; try rfl) HLI.out ⟨b, 0, none⟩ m cap (nsV (fnL Z (m * 4))) rfl hl4 HNW.out (labs_one Z m) (by unfold maxLen; omega) (by omega) (by simp; have := ES0.out; omega) ?_; intro v2 w4 hown hgr _; have HO := Lib.hid hown; have HG := Lib.hid hgr; clear hown hgr))
      have hbw : Below S0 wr w4 := by
        have h1 : Below wr.heap.size wr w4 := HBA.out.grown HG.out (by rw [World.size_alloc]; omega) (fun k hk => by simp only [Value.ownBlock, Option.some.injEq] at hk; omega)
        rw [ES0.out] at h1
        exact h1
      have HC4 := Lib.hid (show Chg B (B + 1) wr w4 from (show Below wr.heap.size wr w4 from by rw [ES0.out]; exact hbw).chg B (B + 1))
      have HR4 := Lib.hid (HLM.out.rd.keep hbw (by have := ES0.out; omega))
      have HO4 := Lib.hid (show w4.ownsRow S0 28 4 v2 m (nsV (fnL Z (m * 4))) from by have := HO.out; rwa [Nat.zero_add, List.nil_append] at this)
      have hBS : B < S0 := by have := ES0.out; omega
      clear HO HG hbw HBA HNW HLI
      refine (pick_any B q' 5 w4 HR4.out (by omega) (by omega) (by omega)).mono ?_
      rintro e w5 ⟨p1, hp1, rfl, hr5, hc5, hs5⟩
      have HC5 := Lib.hid (HC4.out.trans hc5)
      have HR5 := Lib.hid hr5
      have HO5 := Lib.hid (ownsRow_same HO4.out (fun k h1 h2 => hc5.block k h2 (by omega)))
      obtain ⟨X, eX⟩ : ∃ X, x + p1 = X := ⟨_, rfl⟩
      have hX : (x : Int) + (p1 : Int) = (X : Int) := by omega
      have hX9 : X ≤ 9 := by omega
      have hXm : (X : Int) % 10 = (X : Int) := by omega
      have hXt : (X : Int).tmod 10 = (X : Int) := by rw [Int.tmod_eq_emod_of_nonneg (by omega)]; exact hXm
      have hXw : IntKind.i64.wrap (X : Int) = (X : Int) := IntWalk.i64_in _ (by omega)
      clear hr5 hc5 hs5 HC4 HR4 HO4 eX
      go_wp2_with fail
      refine (pick_any B (q' + 1) 4 w5 HR5.out (by omega) (by omega) (by omega)).mono ?_
      rintro e w6 ⟨p2, hp2, rfl, hr6, hc6, hs6⟩
      have HC6 := Lib.hid (HC5.out.trans hc6)
      have HR6 := Lib.hid hr6
      have HO6 := Lib.hid (ownsRow_same HO5.out (fun k h1 h2 => hc6.block k h2 (by omega)))
      obtain ⟨Y, eY⟩ : ∃ Y, y + p2 = Y := ⟨_, rfl⟩
      have hY : (y : Int) + (p2 : Int) = (Y : Int) := by omega
      have hY9 : Y ≤ 9 := by omega
      have hYm : (Y : Int) % 10 = (Y : Int) := by omega
      have hYt : (Y : Int).tmod 10 = (Y : Int) := by rw [Int.tmod_eq_emod_of_nonneg (by omega)]; exact hYm
      have hYw : IntKind.i64.wrap (Y : Int) = (Y : Int) := IntWalk.i64_in _ (by omega)
      clear hr6 hc6 hs6 HC5 HR5 HO5 eY
      go_wp2_with fail
      refine (pick_any B (q' + 1 + 1) 5 w6 HR6.out (by omega) (by omega) (by omega)).mono ?_
      rintro e w7 ⟨p3, hp3, rfl, hr7, hc7, hs7⟩
      have HC7 := Lib.hid (HC6.out.trans hc7)
      have HR7 := Lib.hid hr7
      have HO7 := Lib.hid (ownsRow_same HO6.out (fun k h1 h2 => hc7.block k h2 (by omega)))
      clear hr7 hc7 hs7 HC6 HR6 HO6
      go_wp2_with fail
      refine (pick_any B (q' + 1 + 1 + 1) 4 w7 HR7.out (by omega) (by omega) (by omega)).mono ?_
      rintro e w8 ⟨p4, hp4, rfl, hr8, hc8, hs8⟩
      have HC8 := Lib.hid (HC7.out.trans hc8)
      have HR8 := Lib.hid hr8
      have HO8 := Lib.hid (ownsRow_same HO7.out (fun k h1 h2 => hc8.block k h2 (by omega)))
      have hs08 : S0 ≤ w8.heap.size := by have := HC8.out.size; have := ES0.out; omega
      clear hr8 hc8 hs8 HC7 HR7 HO7
      go_wp2_with (first | (at_builtin; refine wpList_append_own _ rfl _ _ 23 rfl S0 28 i0 _ 4 32 Try.underlying23 hi0 hz0 hz1 hz2 rfl (by decide) v2 m (nsV (fnL Z (m * 4))) rfl (HO8.out.alloc _) ⟨w8.heap.size, 0, none⟩ 1 1 [.int .i64 X, .int .i64 Y, .int .i64 (1 + (p3 : Int)), .int .i64 (1 + (p4 : Int))] rfl rfl (World.news_of_block (cs := #[.int .i64 X, .int .i64 Y, .int .i64 (1 + (p3 : Int)), .int .i64 (1 + (p4 : Int))]) (t := 28) (fr := (0, 0)) (heap_alloc_new w8 _)) (by simp [Value.oneCell']) (by unfold maxLen; omega) (by omega) (by simp; omega) ?_; intro v3 w9 hown hgr _; have HO := Lib.hid hown; have HG := Lib.hid hgr; clear hown hgr))
      have HLB := Lib.hid (labs_four HO.out)
      have hb9 : Below S0 w8 w9 := ((Below.refl S0 w8).alloc hs08 _).grown HG.out (by rw [World.size_alloc]; omega) (fun k hk => (HO8.out.lt k hk).1)
      have HC9 := Lib.hid (HC8.out.then_below hb9 (by have := ES0.out; omega))
      have HR9 := Lib.hid (HR8.out.keep hb9 hBS)
      have hr4 := four_range (lo := -9223372036854775808) (hi := 9223372036854775807) (Z := Z) (m := m) (x := X) (y := Y) (a := 1 + (p3 : Int)) (g := 1 + (p4 : Int)) (fun j hj => by have := HRNG.out j hj; omega) (by omega) (by omega) (by omega) (by omega)
      have HRD := Lib.hid (HLB.out.owT hr4).rd
      obtain ⟨b3, cap3, rfl⟩ := labs_shape HLB.out
      clear HO HG hb9 HC8 HR8 HO8 hr4
      refine (specLabelsValid_any _ S0 w9.heap.size (m + 1) (fourZ Z m X Y (1 + (p3 : Int)) (1 + (p4 : Int))) w9 HRD.out (Nat.le_refl _) (by omega)).mono ?_
      rintro e w10 ⟨rfl, hb10⟩
      have HC10 := Lib.hid (HC9.out.then_below hb10 (by have := HC9.out.size; omega))
      have HR10 := Lib.hid (HR9.out.keep hb10 (by have := HC9.out.size; have := ES0.out; omega))
      by_cases hok : LsOk (m + 1) (fourZ Z m X Y (1 + (p3 : Int)) (1 + (p4 : Int)))
      · rw [lsB_yes hok]
        have HL10 := Lib.hid (show Lm B w.heap.size w w10 b3 cap3 (m + 1) (fourZ Z m X Y (1 + (p3 : Int)) (1 + (p4 : Int))) (q' + 1 + 1 + 1 + 1) from
          ⟨labs_base (HLB.out.below hb10 (Nat.le_refl _)) (by have := ES0.out; omega), hok, ⟨hbn.1, by have := HC10.out.size; omega⟩, HR10.out, HLM.out.chg.trans HC10.out, HLM.out.nw⟩)
        clear hb10 hok HLB HRD HC9 HR9
        go_wp2
        go_roundw
        case rel => exact ⟨k + 1, m + 1, q' + 1 + 1 + 1 + 1, b3, cap3, _, by omega, by go_num, rfl, by omega, by omega, HL10.out⟩
        case measure => simp [intOf]; omega
      · rw [lsB_no hok]
        have HL10 := Lib.hid (HLM.out.pick HR10.out HC10.out)
        clear hb10 hok HLB HRD HC9 HR9
        go_wp2
        go_roundw
        case rel => exact ⟨k + 1, m, q' + 1 + 1 + 1 + 1, b, cap, Z, by omega, by go_num, rfl, by omega, by omega, HL10.out⟩
        case measure => simp [intOf]; omega
    · have ek : k = n := by omega
      have hnlt : ¬ (k : Int) < n := by omega
      have hm6 := hlm.ok.1
      have hown := owT_own hlm.labs (fun j hj => by have := HRNG.out j hj; omega)
      have HOW := Lib.hid hown
      clear hlm hown
      by_cases h0 : m = 0
      · subst h0
        have h0' : ¬ (0 : Int) < (0 : Nat) := by omega
        go_wp2
        go_ret
        exact ⟨b, cap, 0, Z, q', rfl, HOW.out, by omega, fun j hj => by omega, by omega, HLM.out.rd, HLM.out.chg⟩
      · have h0' : (0 : Int) < m := by omega
        have h0n : 0 < m := by omega
        go_wp2_with fail
        refine (pick_any B q' 40 wr HLM.out.rd (by omega) (by omega) (by omega)).mono ?_
        rintro e w4 ⟨z, hz, rfl, hr4, hc4, hs4⟩
        have HL4 := Lib.hid (HLM.out.pick hr4 hc4)
        have HO4 := Lib.hid (owT_keepB HOW.out (hc4.block b hblk.2 (by omega)) w4.heap.size (by omega))
        have hs4' : wr.heap.size ≤ w4.heap.size := by omega
        clear hr4 hc4 hs4 HOW HLM
        by_cases z0 : z = 0
        · subst z0
          have HRA := Lib.hid (HL4.out.rd.keep ((Below.refl w4.heap.size w4).alloc (Nat.le_refl _) (.cells #[.int .i64 0, .int .i64 6] 3)) (by have := HL4.out.bN; omega))
          have HNA := Lib.hid (heap_alloc_new w4 (.cells #[.int .i64 0, .int .i64 6] 3))
          have hsA : (w4.alloc (.cells #[.int .i64 0, .int .i64 6] 3)).heap.size = w4.heap.size + 1 := by rw [World.size_alloc]
          go_wp2_with fail
          refine (pick_any B (q' + 1) 2 _ HRA.out (by omega) (by omega) (by omega)).mono ?_
          rintro e w5 ⟨u, hu, rfl, hr5, hc5, hs5⟩
          have HN5 := Lib.hid ((hc5.block w4.heap.size (by omega) (by have := HL4.out.bN; omega)).trans HNA.out)
          have cU := two_at HN5.out hu
          have HO5 := Lib.hid (owT_keepB HO4.out ((hc5.block b (by omega) (by omega)).trans (Below.heap_alloc w4 _ b (by omega))) w5.heap.size (by omega))
          have HC5 := Lib.hid (((HL4.out.chg.then_below ((Below.refl w4.heap.size w4).alloc (Nat.le_refl _) (.cells #[.int .i64 0, .int .i64 6] 3)) (by have := HL4.out.bN; omega)).trans hc5))
          have HR5 := Lib.hid hr5
          obtain ⟨U, eU⟩ : ∃ U : Int, (if u = 0 then (0 : Int) else 6) = U := ⟨_, rfl⟩
          have hU : -1 ≤ U ∧ U ≤ 10 := by rw [← eU]; split <;> omega
          rw [eU] at cU
          obtain ⟨eF, fF, hbb, hcp, hcm⟩ := owT_at HO5.out (y := 2) (by omega)
          have HS5 := Lib.hid (owT_set HO5.out (y := 2) (by omega) (u := U) (by omega))
          have hu2 : (u : Int) < 2 := by omega
          clear hr5 hc5 eU
          go_wp2
          go_ret
          exact ⟨b, cap, m, _, q' + 2, rfl, (owT_keepB HS5.out rfl _ (by simp [World.setCell]; omega)), by omega, fun j hj => by
            try dsimp only
            split
            · omega
            · exact HRNG.out j hj, by omega, HR5.out.same (fun k hk => Below.heap_setCell _ _ _ _ (by show k ≠ b; omega)), HC5.out.then_below ((Below.refl w.heap.size w5).setCell (p := ⟨b, 2, none⟩) (by show _ ≤ b; omega) _) (Nat.le_refl _)⟩
        by_cases z1 : z = 1
        · subst z1
          have HRA := Lib.hid (HL4.out.rd.keep ((Below.refl w4.heap.size w4).alloc (Nat.le_refl _) (.cells #[.int .i64 (-1), .int .i64 10] 3)) (by have := HL4.out.bN; omega))
          have HNA := Lib.hid (heap_alloc_new w4 (.cells #[.int .i64 (-1), .int .i64 10] 3))
          have hsA : (w4.alloc (.cells #[.int .i64 (-1), .int .i64 10] 3)).heap.size = w4.heap.size + 1 := by rw [World.size_alloc]
          go_wp2_with fail
          refine (pick_any B (q' + 1) 2 _ HRA.out (by omega) (by omega) (by omega)).mono ?_
          rintro e w5 ⟨u, hu, rfl, hr5, hc5, hs5⟩
          have HN5 := Lib.hid ((hc5.block w4.heap.size (by omega) (by have := HL4.out.bN; omega)).trans HNA.out)
          have cU := two_at HN5.out hu
          have HO5 := Lib.hid (owT_keepB HO4.out ((hc5.block b (by omega) (by omega)).trans (Below.heap_alloc w4 _ b (by omega))) w5.heap.size (by omega))
          have HC5 := Lib.hid (((HL4.out.chg.then_below ((Below.refl w4.heap.size w4).alloc (Nat.le_refl _) (.cells #[.int .i64 (-1), .int .i64 10] 3)) (by have := HL4.out.bN; omega)).trans hc5))
          have HR5 := Lib.hid hr5
          obtain ⟨U, eU⟩ : ∃ U : Int, (if u = 0 then (-1 : Int) else 10) = U := ⟨_, rfl⟩
          have hU : -1 ≤ U ∧ U ≤ 10 := by rw [← eU]; split <;> omega
          rw [eU] at cU
          obtain ⟨eF, fF, hbb, hcp, hcm⟩ := owT_at HO5.out (y := 0) (by omega)
          have HS5 := Lib.hid (owT_set HO5.out (y := 0) (by omega) (u := U) (by omega))
          have hu2 : (u : Int) < 2 := by omega
          clear hr5 hc5 eU
          go_wp2
          go_ret
          exact ⟨b, cap, m, _, q' + 2, rfl, (owT_keepB HS5.out rfl _ (by simp [World.setCell]; omega)), by omega, fun j hj => by
            try dsimp only
            split
            · omega
            · exact HRNG.out j hj, by omega, HR5.out.same (fun k hk => Below.heap_setCell _ _ _ _ (by show k ≠ b; omega)), HC5.out.then_below ((Below.refl w.heap.size w5).setCell (p := ⟨b, 0, none⟩) (by show _ ≤ b; omega) _) (Nat.le_refl _)⟩
        by_cases z2 : z = 2
        · subst z2
          obtain ⟨e0, _⟩ := owT_at HO4.out (y := 0) (by omega)
          obtain ⟨e1, _⟩ := owT_at HO4.out (y := 1) (by omega)
          obtain ⟨e2, _⟩ := owT_at HO4.out (y := 2) (by omega)
          obtain ⟨e3, _, _, hcp, _⟩ := owT_at HO4.out (y := 3) (by omega)
          have hg0 := HRNG.out 0 (by omega)
          have hg1 := HRNG.out 1 (by omega)
          have hg2 := HRNG.out 2 (by omega)
          have hg3 := HRNG.out 3 (by omega)
          obtain ⟨a0, ea0⟩ : ∃ a, Z 0 = a := ⟨_, rfl⟩
          obtain ⟨a1, ea1⟩ : ∃ a, Z 1 = a := ⟨_, rfl⟩
          obtain ⟨a2, ea2⟩ : ∃ a, Z 2 = a := ⟨_, rfl⟩
          obtain ⟨a3, ea3⟩ : ∃ a, Z 3 = a := ⟨_, rfl⟩
          rw [ea0] at e0 hg0
          rw [ea1] at e1 hg1
          rw [ea2] at e2 hg2
          rw [ea3] at e3 hg3
          have HLB := Lib.hid (show w4.ownsRow w.heap.size 28 4 (.slice (some ⟨b, 0, none⟩) m cap) m (nsV (fnL Z (m * 4))) from HL4.out.labs)
          have hsw : w.heap.size ≤ w4.heap.size := by have := HL4.out.bN; omega
          clear ea0 ea1 ea2 ea3
          go_wp2_with (first | (at_builtin; refine wpList_append_own _ rfl _ _ 23 rfl w.heap.size 28 i0 _ 4 32 Try.underlying23 hi0 hz0 hz1 hz2 rfl (by decide) (.slice (some ⟨b, 0, none⟩) m cap) m (nsV (fnL Z (m * 4))) rfl (HLB.out.alloc _) ⟨w4.heap.size, 0, none⟩ 1 1 [.int .i64 a0, .int .i64 a1, .int .i64 a2, .int .i64 a3] rfl rfl (World.news_of_block (cs := #[.int .i64 a0, .int .i64 a1, .int .i64 a2, .int .i64 a3]) (t := 28) (fr := (0, 0)) (heap_alloc_new w4 _)) (by simp [Value.oneCell']) (by unfold maxLen; omega) (by omega) (by simp; omega) ?_; intro v5 w5 hown hgr _; have HO := Lib.hid hown; have HG := Lib.hid hgr; clear hown hgr))
          have HLF := Lib.hid (labs_four HO.out)
          have hb5 : Below w.heap.size w4 w5 := ((Below.refl w.heap.size w4).alloc hsw _).grown HG.out (by rw [World.size_alloc]; omega) (fun k hk => (HLB.out.lt k hk).1)
          obtain ⟨b5, cap5, rfl⟩ := labs_shape HLF.out
          have hr100 := four_range (lo := -100) (hi := 100) (Z := Z) (m := m) (x := a0) (y := a1) (a := a2) (g := a3) HRNG.out hg0 hg1 hg2 hg3
          have HR100 := Lib.hid hr100
          have HC5 := Lib.hid (HL4.out.chg.then_below hb5 (Nat.le_refl _))
          have HR5 := Lib.hid (HL4.out.rd.keep hb5 (by omega))
          clear hb5 HO HG HLB hr100
          go_wp2
          go_ret
          exact ⟨b5, cap5, m + 1, _, q' + 1, rfl, HLF.out.owT (fun j hj => by have := HR100.out j hj; omega), by omega, HR100.out, by omega, HR5.out, HC5.out⟩
        · have hz0' : ((z : Int) == 0) = false := by rw [beq_eq_false_iff_ne]; omega
          have hz1' : ((z : Int) == 1) = false := by rw [beq_eq_false_iff_ne]; omega
          have hz2' : ((z : Int) == 2) = false := by rw [beq_eq_false_iff_ne]; omega
          go_wp2
          go_ret
          exact ⟨b, cap, m, Z, q' + 1, rfl, HO4.out, by omega, HRNG.out, by omega, HL4.out.rd, HL4.out.chg⟩

end Go.Proofs.Ythelaffjpmcdbaa
