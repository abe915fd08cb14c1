/- Counting a number in a list, and in the basins. -/
import Derived.Test.YtplfphpnpjjinaaBasE
namespace Go.Proofs.Ytplfphpnpjjinaa
open Go.RowKit
set_option linter.unusedVariables false

def cntZ (Z : Nat → Int) (s : Int) : Nat → Nat
  | 0 => 0
  | k + 1 => cntZ Z s k + (if Z k = s then 1 else 0)
theorem cntZ_yes {Z : Nat → Int} {s : Int} {k : Nat} (h : Z k = s) : cntZ Z s (k + 1) = cntZ Z s k + 1 := by simp [cntZ, h]
theorem cntZ_no {Z : Nat → Int} {s : Int} {k : Nat} (h : Z k ≠ s) : cntZ Z s (k + 1) = cntZ Z s k := by simp [cntZ, h]
theorem cntZ_le (Z : Nat → Int) (s : Int) : ∀ k, cntZ Z s k ≤ k
  | 0 => by simp [cntZ]
  | k + 1 => by have := cntZ_le Z s k; unfold cntZ; split <;> omega
theorem cntZ_mono (Z : Nat → Int) (s : Int) {a b : Nat} (h : a ≤ b) : cntZ Z s a ≤ cntZ Z s b := by
  induction h with
  | refl => exact Nat.le_refl _
  | step _ ih => exact Nat.le_trans ih (Nat.le_add_right _ _)
theorem cntZ_pos {Z : Nat → Int} {s : Int} {n j : Nat} (hj : j < n) (h : Z j = s) : 0 < cntZ Z s n := by
  have h1 := cntZ_yes h
  have h2 := cntZ_mono Z s (a := j + 1) (b := n) (by omega)
  omega
theorem cntZ_ex {Z : Nat → Int} {s : Int} : ∀ {n : Nat}, 0 < cntZ Z s n → ∃ j, j < n ∧ Z j = s
  | 0, h => by simp [cntZ] at h
  | n + 1, h => by
    by_cases e : Z n = s
    · exact ⟨n, by omega, e⟩
    · rw [cntZ_no e] at h
      obtain ⟨j, h1, h2⟩ := cntZ_ex h
      exact ⟨j, by omega, h2⟩
theorem cntZ_congr {Z Z' : Nat → Int} {s : Int} : ∀ {n : Nat}, (∀ j, j < n → Z j = Z' j) → cntZ Z s n = cntZ Z' s n
  | 0, _ => rfl
  | n + 1, h => by
    have h1 := cntZ_congr (s := s) (n := n) (fun j hj => h j (by omega))
    simp only [cntZ, h1, h n (by omega)]

set_option maxHeartbeats 1000000 in
set_option maxRecDepth 20000 in
theorem l2Count_any (v : Value) (lo hi n : Nat) (Z : Nat → Int) (s : Int) (w : World) (hv : RdI lo hi w v n Z) (hn : n ≤ 1000) :
    Calls Try.prog 63 #[v, .int .i64 s] w fun e w' => e = .returned (.int .i64 (cntZ Z s n)) ∧ w = w' := by
  obtain ⟨ao, cap, b, off, rfl, h2, h3, h4, h5, h6⟩ := hv
  have H5 := Lib.hid h5
  have H6 := Lib.hid h6
  clear h4 h5 h6
  go_enter Try.func63, Try.ntmps63
  go_wp2
  go_loop [5, 6] (fun o i => ∃ k : Nat, k ≤ n ∧ i = .int .i64 k ∧ o = .int .i64 (cntZ Z s k)) (fun _ i => n - (intOf i).toNat)
  case atStart => exact ⟨0, Nat.zero_le _, rfl, rfl⟩
  case round =>
    obtain ⟨k, hk, rfl, rfl⟩ := hrel
    have hle := cntZ_le Z s k
    by_cases hlt : k < n
    · have hlt' : (k : Int) < n := by omega
      obtain ⟨rfl, _, _⟩ := H5.out (by omega)
      have c1 := H6.out k hlt
      by_cases hz : Z k = s
      · have HT := Lib.hid (cntZ_yes hz)
        rw [hz] at c1
        have hx : (s == s) = true := by simp
        generalize cntZ Z s k = q at hle HT ⊢
        clear hz
        go_wp2
        go_round
        case rel => exact ⟨k + 1, by omega, by go_num, by rw [HT.out]; go_num⟩
        case measure => simp [intOf]; omega
      · have HT := Lib.hid (cntZ_no hz)
        have hx : (Z k == s) = false := by rw [beq_eq_false_iff_ne]; exact hz
        generalize cntZ Z s k = q at hle HT ⊢
        generalize Z k = zk at c1 hx hz
        clear hz
        go_wp2
        go_round
        case rel => exact ⟨k + 1, by omega, by go_num, by rw [HT.out]⟩
        case measure => simp [intOf]; omega
    · obtain rfl : k = n := by omega
      have hge : ¬ (k : Int) < k := by omega
      go_wp2
      go_ret
      exact ⟨rfl, rfl⟩

theorem IsRun.last_sink {R C : Nat} {Z : Nat → Int} {i : Ix (R * C)} {l : List (Ix (R * C))} (h : IsRun R C Z i l) : nxt R C Z (l.getLastD i) = l.getLastD i := by
  induction h with
  | sink h => simpa using h
  | flow h1 h2 ih =>
    rename_i i l
    obtain ⟨x, t, rfl⟩ : ∃ x t, l = x :: t := by
      rcases h2.cons with ⟨_, e⟩ | ⟨_, t, e, _⟩ <;> exact ⟨_, _, e⟩
    rw [List.getLastD_cons] at ih ⊢
    rw [List.getLastD_cons]
    exact ih
theorem endI_sink {R C : Nat} {Z : Nat → Int} (hZ : ∀ x, x < R * C → 0 ≤ Z x ∧ Z x ≤ 99) (i : Ix (R * C)) : nxt R C Z (endI R C Z i) = endI R C Z i := (runL_is hZ i).last_sink
theorem endI_self {R C : Nat} {Z : Nat → Int} (hZ : ∀ x, x < R * C → 0 ≤ Z x ∧ Z x ≤ 99) {i : Ix (R * C)} (h : nxt R C Z i = i) : endI R C Z i = i := by
  rcases (runL_is hZ i).cons with ⟨_, e⟩ | ⟨hn, _⟩
  · unfold endI; rw [e]; rfl
  · exact absurd h hn

/-- the index s is that of a sink -/
def SinkAt (R C : Nat) (Z : Nat → Int) (s : Int) : Prop := ∃ i : Ix (R * C), s = (i.1 : Int) ∧ nxt R C Z i = i
theorem sink_cnt {R C : Nat} {Z : Nat → Int} (hZ : ∀ x, x < R * C → 0 ≤ Z x ∧ Z x ≤ 99) (s : Int) : SinkAt R C Z s ↔ 0 < cntZ (ezV R C Z) s (R * C) := by
  constructor
  · rintro ⟨i, rfl, h⟩
    exact cntZ_pos i.2 (by rw [ezV_at, endI_self hZ h])
  · intro h
    obtain ⟨j, hj, e⟩ := cntZ_ex h
    rw [show ezV R C Z j = ((endI R C Z ⟨j, hj⟩).1 : Int) from ezV_at (Z := Z) ⟨j, hj⟩] at e
    exact ⟨endI R C Z ⟨j, hj⟩, e.symm, endI_sink hZ _⟩

open Classical in
noncomputable def G.bnV (g : G) (s : Int) : Int := if g.Valid ∧ SinkAt g.n (g.len 0) g.flat s then cntZ (ezV g.n (g.len 0) g.flat) s (g.n * g.len 0) else -1
theorem G.bnV_yes {g : G} {s : Int} (h : g.Valid) (k : SinkAt g.n (g.len 0) g.flat s) : g.bnV s = cntZ (ezV g.n (g.len 0) g.flat) s (g.n * g.len 0) := by unfold G.bnV; rw [if_pos ⟨h, k⟩]
theorem G.bnV_no {g : G} {s : Int} (h : ¬ (g.Valid ∧ SinkAt g.n (g.len 0) g.flat s)) : g.bnV s = -1 := by unfold G.bnV; rw [if_neg h]

theorem bsZ (R C : Nat) (Z : Nat → Int) {j : Nat} (hj : j < R * C) : ixZ (bsL R C Z (R * C)) j = ezV R C Z j := by
  have hl := bsL_len R C Z (R * C) (Nat.le_refl _)
  rw [ixZ_at _ (by omega)]
  exact bsL_get _ _ _ (Nat.le_refl _)

set_option maxHeartbeats 2000000 in
set_option maxRecDepth 20000 in
theorem specWaterBasin_any (v : Value) (lo hi : Nat) (g : G) (s : Int) (w : World) (hv : RdM lo hi w v g) (hh : hi ≤ w.heap.size) :
    Calls Try.prog 49 #[v, .int .i64 s] w (IntPost (g.bnV s) w) := by
  by_cases h : g.Valid
  · have HC := Lib.hid (specWaterBasins_any v lo hi g w hv hh true (by simp [h]))
    have h49 := mul_le_49 h.1.2 h.2.1.2
    have hl := bsL_len g.n (g.len 0) g.flat (g.n * g.len 0) (Nat.le_refl _)
    have hZ := fun x (hx : x < g.n * g.len 0) => flat_okW h hx
    have HE := Lib.hid (G.bsV_yes h)
    have hcz : cntZ (ixZ g.bsV) s g.bsV.length = cntZ (ezV g.n (g.len 0) g.flat) s (g.n * g.len 0) := by
      rw [G.bsV_yes h, hl]
      exact cntZ_congr fun j hj => bsZ _ _ _ hj
    have HCZ := Lib.hid hcz
    have hbl : g.bsV.length ≤ 49 := by rw [G.bsV_yes h, hl]; exact h49
    obtain ⟨b0, off0, cap0, rfl⟩ := hv.shapeW h.1.1
    have H49 := Lib.hid h49
    by_cases hs : SinkAt g.n (g.len 0) g.flat s
    · have HA := Lib.hid (G.bnV_yes h hs)
      have hp := (sink_cnt hZ s).1 hs
      have hle := cntZ_le (ezV g.n (g.len 0) g.flat) s (g.n * g.len 0)
      obtain ⟨q, hq⟩ : ∃ q, cntZ (ezV g.n (g.len 0) g.flat) s (g.n * g.len 0) = q := ⟨_, rfl⟩
      rw [hq] at hp hle HA HCZ
      have hx : ((q : Int) == 0) = false := by rw [beq_eq_false_iff_ne]; omega
      clear hv h hs hl hZ hcz hq h49
      go_enter Try.func49, Try.ntmps49
      go_wp2_with fail
      refine HC.out.mono ?_
      rintro e w1 ⟨r, rfl, hl1, hb1⟩
      obtain ⟨a1, c1, rfl⟩ := hl1.shape
      have HR := Lib.hid (hl1.rdI H49.out)
      have HB1 := Lib.hid hb1
      clear hl1 hb1
      go_wp2_with fail
      refine (l2Count_any _ _ _ _ _ s _ HR.out (by omega)).mono ?_
      rintro e w2 ⟨rfl, rfl⟩
      rw [HCZ.out]
      go_wp2_with fail
      refine (l2Count_any _ _ _ _ _ s _ HR.out (by omega)).mono ?_
      rintro e w2 ⟨rfl, rfl⟩
      rw [HCZ.out]
      go_wp2
      go_ret
      exact ⟨ret_int HA.out.symm, HB1.out⟩
    · have HA := Lib.hid (G.bnV_no (g := g) (s := s) (fun h => hs h.2))
      have hp : cntZ (ezV g.n (g.len 0) g.flat) s (g.n * g.len 0) = 0 := by
        have := mt (sink_cnt hZ s).2 hs
        omega
      rw [hp] at HCZ
      clear hv h hs hl hZ hcz hp h49
      go_enter Try.func49, Try.ntmps49
      go_wp2_with fail
      refine HC.out.mono ?_
      rintro e w1 ⟨r, rfl, hl1, hb1⟩
      obtain ⟨a1, c1, rfl⟩ := hl1.shape
      have HR := Lib.hid (hl1.rdI H49.out)
      have HB1 := Lib.hid hb1
      clear hl1 hb1
      go_wp2_with fail
      refine (l2Count_any _ _ _ _ _ s _ HR.out (by omega)).mono ?_
      rintro e w2 ⟨rfl, rfl⟩
      rw [HCZ.out]
      go_wp2
      go_ret
      exact ⟨ret_int HA.out.symm, HB1.out⟩
  · have HC := Lib.hid (specWaterBasins_any v lo hi g w hv hh false (by simp [h]))
    have HA := Lib.hid (G.bnV_no (g := g) (s := s) (fun k => h k.1))
    clear hv h
    go_enter Try.func49, Try.ntmps49
    go_wp2_with fail
    refine HC.out.mono ?_
    rintro e w1 ⟨r, rfl, hl1, hb1⟩
    obtain ⟨a1, c1, rfl⟩ := hl1.shape
    have HB1 := Lib.hid hb1
    clear hl1 hb1
    go_wp2
    go_ret
    exact ⟨ret_int HA.out.symm, HB1.out⟩

set_option maxHeartbeats 4000000 in
set_option maxRecDepth 100000 in
theorem implWaterBasin_any (v : Value) (lo hi : Nat) (g : G) (s : Int) (w : World) (hv : RdM lo hi w v g) (hh : hi ≤ w.heap.size) :
    Calls Try.prog 34 #[v, .int .i64 s] w (IntPost (g.bnV s) w) := by
  by_cases h : g.Valid
  case neg =>
    have HC := Lib.hid (reliefOf_no v lo hi g w hv hh h)
    have HA := Lib.hid (G.bnV_no (g := g) (s := s) (fun k => h k.1))
    clear hv h
    go_enter Try.func34, Try.ntmps34
    go_wp2_with fail
    refine HC.out.mono ?_
    rintro e w1 ⟨rfl, hb1⟩
    have HB1 := Lib.hid (hb1.alloc hb1.size (.cells #[.int .i64 0, .int .i64 0, .slice none 0 0] 52))
    clear hb1
    go_wp2
    go_ret
    exact ⟨ret_int HA.out.symm, HB1.out⟩
  case pos =>
    have HC := Lib.hid (reliefOf_yes v lo hi g w hv hh h)
    have HH := Lib.hid h
    have h49 := mul_le_49 h.1.2 h.2.1.2
    have HZ := Lib.hid (fun x (hx : x < g.n * g.len 0) => flat_okW h hx)
    clear hv h
    by_cases hr : 0 ≤ s ∧ s < (g.n * g.len 0 : Nat)
    case neg =>
      have HA := Lib.hid (G.bnV_no (g := g) (s := s) (fun ⟨_, i, e, _⟩ => hr (by have := i.2; omega)))
      have HR := Lib.hid hr
      clear hr
      go_enter Try.func34, Try.ntmps34
      go_wp2_with fail
      refine HC.out.mono ?_
      intro e w1 hq
      obtain ⟨n, gg, cap, rfl, hrv, hb1⟩ := hq.rv
      have HB1 := Lib.hid (hb1.alloc hb1.size (.cells #[.int .i64 g.n, .int .i64 (g.len 0), .slice (some ⟨gg, 0, none⟩) n cap] 52))
      have hr2 : s < 0 ∨ (n : Int) ≤ s := by have h1 := HR.out; rw [hrv.n_eq]; omega
      clear hq hrv hb1
      by_cases hs0 : s < 0
      · go_wp2
        go_ret
        exact ⟨ret_int HA.out.symm, HB1.out⟩
      · have hs1 : (n : Int) ≤ s := by omega
        have hs2 : decide (s < 0) = false := by simp; omega
        clear hr2
        go_wp2
        go_ret
        exact ⟨ret_int HA.out.symm, HB1.out⟩
    case pos =>
      obtain ⟨hr1, hr2⟩ := hr
      obtain ⟨k, rfl⟩ := Int.eq_ofNat_of_zero_le hr1
      have hk : k < g.n * g.len 0 := by omega
      obtain ⟨i, hi'⟩ : ∃ i : Ix (g.n * g.len 0), i.1 = k := ⟨⟨k, hk⟩, rfl⟩
      have HI := Lib.hid hi'
      have hn7 := HH.out.1.2
      have hl7 := HH.out.2.1.2
      by_cases hs : nxt g.n (g.len 0) g.flat i = i
      · have HA := Lib.hid (G.bnV_yes (g := g) (s := (k : Int)) HH.out ⟨i, by rw [hi'], hs⟩)
        have HS := Lib.hid hs
        have hcl := cntZ_le (ezV g.n (g.len 0) g.flat) k (g.n * g.len 0)
        clear hs hi'
        go_enter Try.func34, Try.ntmps34
        go_wp2_with fail
        refine HC.out.mono ?_
        intro e w1 hq
        obtain ⟨n, gg, cap, rfl, hrv, hb1⟩ := hq.rv
        have hkn : k < n := by rw [hrv.n_eq]; exact hk
        have hkn' : (k : Int) < n := by omega
        have HN := Lib.hid hrv.n_eq
        have HB1 := Lib.hid (hb1.alloc hb1.size (.cells #[.int .i64 g.n, .int .i64 (g.len 0), .slice (some ⟨gg, 0, none⟩) n cap] 52))
        have HRV := Lib.hid (hrv.keep ((Below.refl w1.heap.size w1).alloc (Nat.le_refl _) (.cells #[.int .i64 g.n, .int .i64 (g.len 0), .slice (some ⟨gg, 0, none⟩) n cap] 52)) (Nat.le_refl _))
        have HLOC := Lib.hid (heap_alloc_new w1 (.cells #[.int .i64 g.n, .int .i64 (g.len 0), .slice (some ⟨gg, 0, none⟩) n cap] 52))
        clear hq hrv hb1 hk
        have HSK := Lib.hid (isSink_yes g.n (g.len 0) gg cap n hn7 hl7 g.flat i _ HRV.out HS.out)
        rw [HI.out] at HSK
        go_wp2_with fail
        refine HSK.out.mono ?_
        rintro e w2 ⟨rfl, hb2⟩
        have HB2 := Lib.hid (HB1.out.trans (hb2.mono HB1.out.size))
        obtain ⟨d0, d1, d2, _, _, _⟩ := cells3 ((hb2.block w1.heap.size (by simp)).trans HLOC.out)
        have HL := Lib.hid (basins_any g.n (g.len 0) gg cap n hn7 hl7 g.flat HZ.out w2 (HRV.out.keep hb2 (Nat.le_refl _)))
        clear hb2
        go_wp2_with fail
        refine HL.out.mono ?_
        rintro e w3 ⟨b3, rfl, hl3, hb3⟩
        have HB3 := Lib.hid (HB2.out.trans (hb3.mono HB2.out.size))
        have hrd := hl3.rdI h49
        have hbl := bsL_len g.n (g.len 0) g.flat (g.n * g.len 0) (Nat.le_refl _)
        rw [show (bsL g.n (g.len 0) g.flat (g.n * g.len 0)).length = n by rw [hbl, HN.out]] at hrd
        obtain ⟨ao, cap', b, off, e1, h2, h3, h4, h5, h6⟩ := hrd
        simp only [Value.slice.injEq] at e1
        obtain ⟨rfl, _, rfl⟩ := e1
        have H5 := Lib.hid h5
        have H6 := Lib.hid h6
        have hn49 : n ≤ 49 := by rw [HN.out]; exact h49
        clear hb3 hl3 h4 h5 h6 hbl d0 d1 d2
        go_wp2
        go_loop [7, 37] (fun o j => ∃ jj : Nat, jj ≤ n ∧ j = .int .i64 jj ∧ o = .int .i64 (cntZ (ezV g.n (g.len 0) g.flat) k jj)) (fun _ j => n - (intOf j).toNat)
        case atStart => exact ⟨0, Nat.zero_le _, rfl, rfl⟩
        case round =>
          obtain ⟨jj, hj, rfl, rfl⟩ := hrel
          have hle := cntZ_le (ezV g.n (g.len 0) g.flat) k jj
          by_cases hlt : jj < n
          · have hlt' : (jj : Int) < n := by omega
            obtain ⟨e5, _, _⟩ := H5.out (by omega)
            simp only [Option.some.injEq, Addr.mk.injEq, and_true] at e5
            obtain ⟨rfl, rfl⟩ := e5
            have c1 := H6.out jj hlt
            rw [Nat.zero_add, bsZ _ _ _ (by rw [← HN.out]; exact hlt)] at c1
            by_cases hz : ezV g.n (g.len 0) g.flat jj = k
            · have HT := Lib.hid (cntZ_yes hz)
              rw [hz] at c1
              have hx : ((k : Int) == (k : Int)) = true := by simp
              generalize cntZ (ezV g.n (g.len 0) g.flat) k jj = q at hle HT ⊢
              clear hz
              go_wp2
              go_round
              case rel => exact ⟨jj + 1, by omega, by go_num, by rw [HT.out]; go_num⟩
              case measure => simp [intOf]; omega
            · have HT := Lib.hid (cntZ_no hz)
              have hx : (ezV g.n (g.len 0) g.flat jj == (k : Int)) = false := by rw [beq_eq_false_iff_ne]; exact hz
              generalize cntZ (ezV g.n (g.len 0) g.flat) k jj = q at hle HT ⊢
              generalize ezV g.n (g.len 0) g.flat jj = zk at c1 hx hz
              clear hz
              go_wp2
              go_round
              case rel => exact ⟨jj + 1, by omega, by go_num, by rw [HT.out]⟩
              case measure => simp [intOf]; omega
          · have ej : jj = g.n * g.len 0 := by rw [← HN.out]; omega
            have HA2 := Lib.hid (show ((cntZ (ezV g.n (g.len 0) g.flat) k jj : Nat) : Int) = g.bnV k by rw [HA.out, ej])
            have hge : ¬ (jj : Int) < n := by omega
            rw [HA2.out]
            clear ej
            go_wp2
            go_ret
            exact ⟨rfl, HB3.out⟩
      · have HA := Lib.hid (G.bnV_no (g := g) (s := (k : Int)) (fun ⟨_, j, e, hj⟩ => hs (by
          have : j = i := Subtype.ext (by rw [hi']; omega)
          rw [← this]; exact hj)))
        have HS := Lib.hid hs
        clear hs hi'
        go_enter Try.func34, Try.ntmps34
        go_wp2_with fail
        refine HC.out.mono ?_
        intro e w1 hq
        obtain ⟨n, gg, cap, rfl, hrv, hb1⟩ := hq.rv
        have hkn : k < n := by rw [hrv.n_eq]; exact hk
        have hkn' : (k : Int) < n := by omega
        have HB1 := Lib.hid (hb1.alloc hb1.size (.cells #[.int .i64 g.n, .int .i64 (g.len 0), .slice (some ⟨gg, 0, none⟩) n cap] 52))
        have HRV := Lib.hid (hrv.keep ((Below.refl w1.heap.size w1).alloc (Nat.le_refl _) (.cells #[.int .i64 g.n, .int .i64 (g.len 0), .slice (some ⟨gg, 0, none⟩) n cap] 52)) (Nat.le_refl _))
        clear hq hrv hb1 hk
        have HSK := Lib.hid (isSink_no g.n (g.len 0) gg cap n hn7 hl7 g.flat i _ HRV.out HS.out)
        rw [HI.out] at HSK
        go_wp2_with fail
        refine HSK.out.mono ?_
        rintro e w2 ⟨rfl, hb2⟩
        have HB2 := Lib.hid (HB1.out.trans (hb2.mono HB1.out.size))
        clear hb2
        go_wp2
        go_ret
        exact ⟨ret_int HA.out.symm, HB2.out⟩

end Go.Proofs.Ytplfphpnpjjinaa
