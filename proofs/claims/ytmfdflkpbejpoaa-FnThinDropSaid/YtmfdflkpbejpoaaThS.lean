/- Thinned lines of the model: what is one, the errors. -/
import Derived.Test.YtmfdflkpbejpoaaPrS
import Derived.Test.YtmfdflkpbejpoaaThM
namespace Go.Proofs.Ytmfdflkpbejpoaa
open Go.RowKit
set_option linter.unusedVariables false

/-- the last of the first k points -/
def lsV (Y : Nat → Int) : Nat → Int
  | 0 => -1
  | k + 1 => Y k
def AscB (n : Nat) (Y : Nat → Int) (k : Nat) : Prop := ∀ j, j < k → lsV Y j + 1 ≤ Y j ∧ Y j ≤ (n : Int) - 1
theorem lsV_low {n k : Nat} {Y : Nat → Int} (h : AscB n Y k) : ∀ j, j ≤ k → -1 ≤ lsV Y j := by
  intro j
  induction j with
  | zero => intro _; exact Int.le_refl _
  | succ j ih =>
    intro hj
    have h1 := (h j (by omega)).1
    have h2 := ih (by omega)
    show -1 ≤ Y j
    omega
theorem lsV_top {n k : Nat} {Y : Nat → Int} (h : AscB n Y k) : lsV Y k ≤ (n : Int) - 1 ∨ lsV Y k = -1 := by
  cases k with
  | zero => exact Or.inr rfl
  | succ k => exact Or.inl (h k (by omega)).2
theorem thOk_iff {n : Nat} {Z : Nat → Int} {m : Nat} {Y : Nat → Int} : ThOk n Z m Y ↔ PrOk n Z ∧ 1 ≤ m ∧ AscB n Y m ∧ Y 0 = 0 ∧ lsV Y m = (n : Int) - 1 := by
  constructor
  · intro h
    refine ⟨h.1, h.2.1, fun j hj => ⟨?_, ?_⟩, h.2.2.1, ?_⟩
    · cases j with
      | zero => have := h.2.2.1; show -1 + 1 ≤ Y 0; omega
      | succ j => have := h.2.2.2.2 j hj; show Y j + 1 ≤ Y (j + 1); omega
    · have := h.range j hj; omega
    · obtain ⟨t, rfl⟩ : ∃ t, m = t + 1 := ⟨m - 1, by have := h.2.1; omega⟩
      exact h.2.2.2.1
  · rintro ⟨h1, h2, h3, h4, h5⟩
    obtain ⟨t, rfl⟩ : ∃ t, m = t + 1 := ⟨m - 1, by omega⟩
    refine ⟨h1, h2, h4, h5, fun i hi => ?_⟩
    have := (h3 (i + 1) hi).1
    show Y i < Y (i + 1)
    have h6 : lsV Y (i + 1) = Y i := rfl
    omega

set_option maxHeartbeats 4000000 in
set_option maxRecDepth 20000 in
theorem specThinValid_any (v u : Value) (lo hi lo2 hi2 n m : Nat) (Z Y : Nat → Int) (w : World) (hv : RdI lo hi w v n Z) (hu : RdI lo2 hi2 w u m Y) (hn : n ≤ 1048576) (hm : m ≤ 1048576) :
    Calls Try.prog 16 #[v, u] w (SmPost (thB n Z m Y) w) := by
  have HV := Lib.hid (specProfileValid_any v lo hi n Z w hv)
  obtain ⟨va, vc, rfl⟩ := hv.shape
  obtain ⟨ao, cap, b, off, rfl, h2, h3, h4, h5, h6⟩ := hu
  have H5 := Lib.hid h5
  have H6 := Lib.hid h6
  have HY := Lib.hid (fun (h : PrOk n Z ∧ 1 ≤ m ∧ AscB n Y m ∧ Y 0 = 0 ∧ lsV Y m = (n : Int) - 1) => thB_yes (n := n) (z := Z) (m := m) (y := Y) (thOk_iff.2 h))
  have HN := Lib.hid (fun (h : ¬ (PrOk n Z ∧ 1 ≤ m ∧ AscB n Y m ∧ Y 0 = 0 ∧ lsV Y m = (n : Int) - 1)) => thB_no (n := n) (z := Z) (m := m) (y := Y) (fun g => h (thOk_iff.1 g)))
  have hwn : IntKind.i64.wrap ((n : Int) - 1) = (n : Int) - 1 := IntWalk.i64_in _ (by omega)
  clear h4 h5 h6 hv
  go_enter Try.func16, Try.ntmps16
  go_wp2
  go_loop [5, 6] (fun l i => ∃ k : Nat, k ≤ m ∧ i = .int .i64 k ∧ l = .int .i64 (lsV Y k) ∧ AscB n Y k) (fun _ i => m - (intOf i).toNat)
  case atStart => exact ⟨0, Nat.zero_le _, rfl, rfl, fun j hj => by omega⟩
  case round =>
    obtain ⟨k, hk, rfl, rfl, hdone⟩ := hrel
    have hl1 := lsV_low hdone k (Nat.le_refl _)
    have hl2 := lsV_top hdone
    have HD := Lib.hid hdone
    clear hdone
    by_cases hlt : k < m
    · obtain ⟨rfl, _, _⟩ := H5.out (by omega)
      have q1 := H6.out k hlt
      have hlt' : (k : Int) < m := by omega
      have HS := Lib.hid (show lsV Y (k + 1) = Y k from rfl)
      have HDK := Lib.hid (fun (h : lsV Y k + 1 ≤ Y k ∧ Y k ≤ (n : Int) - 1) => (show AscB n Y (k + 1) from fun j hj => by
        by_cases e : j = k
        · subst e; exact h
        · exact HD.out j (by omega)))
      obtain ⟨la, ela⟩ : ∃ la, lsV Y k = la := ⟨_, rfl⟩
      obtain ⟨y, ey⟩ : ∃ y, Y k = y := ⟨_, rfl⟩
      have HDN := Lib.hid (fun (h : ¬ (la + 1 ≤ y ∧ y ≤ (n : Int) - 1)) => HN.out (fun g => h (by have := g.2.2.1 k hlt; rw [ela, ey] at this; exact this)))
      rw [ela, ey] at HDK
      rw [ey] at q1 HS
      rw [ela] at hl1 hl2 ⊢
      have hwl : IntKind.i64.wrap (la + 1) = la + 1 := IntWalk.i64_in _ (by omega)
      clear ela ey
      by_cases hz : la + 1 ≤ y ∧ y ≤ (n : Int) - 1
      · have HA := Lib.hid (HDK.out hz)
        obtain ⟨hz1, hz2⟩ := hz
        go_wp2_with fail
        refine (l6In_yes _ _ _ _ hz1 hz2).mono ?_
        rintro e w' ⟨rfl, rfl⟩
        go_wp2
        go_round
        case rel => exact ⟨k + 1, by omega, by go_num, by rw [HS.out], HA.out⟩
        case measure => simp [intOf]; omega
      · have HB := Lib.hid (HDN.out hz)
        go_wp2_with fail
        refine (l6In_no _ _ _ _ (by omega)).mono ?_
        rintro e w' ⟨rfl, rfl⟩
        go_wp2
        go_ret
        exact sm_post HB.out _
    · obtain rfl : k = m := by omega
      have hlt' : ¬ (k : Int) < k := by omega
      obtain ⟨la, ela⟩ : ∃ la, lsV Y k = la := ⟨_, rfl⟩
      rw [ela] at hl1 hl2 HY HN ⊢
      clear ela
      by_cases hok : PrOk n Z
      · have HP := Lib.hid (prB_yes hok)
        by_cases hk0 : 0 < k
        · obtain ⟨rfl, _, _⟩ := H5.out hk0
          have q1 : w.cell? ⟨b, off, none⟩ = some (.int .i64 (Y 0)) := H6.out 0 hk0
          have hk0' : (0 : Int) < k := by omega
          obtain ⟨y, ey⟩ : ∃ y, Y 0 = y := ⟨_, rfl⟩
          rw [ey] at q1 HY HN
          clear ey
          by_cases hy : y = 0
          · by_cases hl : la = (n : Int) - 1
            · have HB := Lib.hid (HY.out ⟨hok, hk0, HD.out, hy, hl⟩)
              have b1 : (y == 0) = true := by rw [beq_iff_eq]; exact hy
              have b2 : (la == (n : Int) - 1) = true := by rw [beq_iff_eq]; exact hl
              clear hok hy hl hl1 hl2
              go_wp2_with fail
              refine HV.out.mono ?_
              rintro e w' ⟨rfl, rfl⟩
              rw [HP.out]
              go_wp2
              go_ret
              exact sm_post HB.out _
            · have HB := Lib.hid (HN.out (fun g => hl g.2.2.2.2))
              have b1 : (y == 0) = true := by rw [beq_iff_eq]; exact hy
              have b2 : (la == (n : Int) - 1) = false := by rw [beq_eq_false_iff_ne]; exact hl
              clear hok hy hl hl1 hl2
              go_wp2_with fail
              refine HV.out.mono ?_
              rintro e w' ⟨rfl, rfl⟩
              rw [HP.out]
              go_wp2
              go_ret
              exact sm_post HB.out _
          · have HB := Lib.hid (HN.out (fun g => hy g.2.2.2.1))
            have b1 : (y == 0) = false := by rw [beq_eq_false_iff_ne]; exact hy
            clear hok hy hl1 hl2
            go_wp2_with fail
            refine HV.out.mono ?_
            rintro e w' ⟨rfl, rfl⟩
            rw [HP.out]
            go_wp2
            go_ret
            exact sm_post HB.out _
        · have HB := Lib.hid (HN.out (fun g => hk0 g.2.1))
          have hk0' : ¬ (0 : Int) < k := by omega
          clear hok hl1 hl2
          go_wp2_with fail
          refine HV.out.mono ?_
          rintro e w' ⟨rfl, rfl⟩
          rw [HP.out]
          go_wp2
          go_ret
          exact sm_post HB.out _
      · have HP := Lib.hid (prB_no hok)
        have HB := Lib.hid (HN.out (fun g => hok g.1))
        clear hok hl1 hl2
        go_wp2_with fail
        refine HV.out.mono ?_
        rintro e w' ⟨rfl, rfl⟩
        rw [HP.out]
        go_wp2
        go_ret
        exact sm_post HB.out _

/-- a number, and nothing but draws -/
def IqPost (m : Int) (w : World) (e : Ending) (w' : World) : Prop := e = .returned (.int .i64 m) ∧ ∃ n, w' = w.drewN n
theorem IqPost.int {m : Int} {w w' : World} {e : Ending} (h : IqPost m w e w') : IntPost m w e w' := ⟨h.1, by obtain ⟨n, rfl⟩ := h.2; exact below_drewN (Below.refl _ _) n⟩

set_option maxHeartbeats 4000000 in
set_option maxRecDepth 20000 in
theorem l6hError_q (v : Value) (lo hi n : Nat) (Z : Nat → Int) (i j k : Nat) (w : World) (hv : RdI lo hi w v n Z) (hok : PrOk n Z) (hij : i < j) (hjk : j < k) (hk : k < n) :
    Calls Try.prog 81 #[v, .int .i64 i, .int .i64 j, .int .i64 k] w (IqPost (erJ Z i j k) w) := by
  have hn20 := hok.1.2
  obtain ⟨b, off, cap, rfl, hcap, _, _, hc⟩ := hv.open (by omega)
  have ci := hc i (by omega)
  have cj := hc j (by omega)
  have ck := hc k hk
  obtain ⟨hzi1, hzi2⟩ := hok.2 i (by omega)
  obtain ⟨hzj1, hzj2⟩ := hok.2 j (by omega)
  obtain ⟨hzk1, hzk2⟩ := hok.2 k hk
  have hd := erD_rng hok.2 hn20 hij hjk hk
  have HE := Lib.hid (show erJ Z i j k = (max (erD Z i j k) (0 - erD Z i j k) + k - i - 1) / ((k : Int) - i) from rfl)
  have hE0 := erJ_nonneg (z := Z) (i := i) (j := j) (k := k) (by omega)
  have hE1 := erJ_top hok.2 hn20 hij hjk hk
  have HDD := Lib.hid (show erD Z i j k = Z j * ((k : Int) - i) - Z i * ((k : Int) - j) - Z k * ((j : Int) - i) from rfl)
  obtain ⟨E, eE⟩ : ∃ x, erJ Z i j k = x := ⟨_, rfl⟩
  obtain ⟨D, eD⟩ : ∃ x, erD Z i j k = x := ⟨_, rfl⟩
  rw [eE] at hE0 hE1
  rw [eE, eD] at HE
  rw [eE]
  rw [eD] at hd HDD
  obtain ⟨zi, ezi⟩ : ∃ x, Z i = x := ⟨_, rfl⟩
  obtain ⟨zj, ezj⟩ : ∃ x, Z j = x := ⟨_, rfl⟩
  obtain ⟨zk, ezk⟩ : ∃ x, Z k = x := ⟨_, rfl⟩
  rw [ezi, ezj, ezk] at HDD
  rw [ezi] at ci hzi1 hzi2
  rw [ezj] at cj hzj1 hzj2
  rw [ezk] at ck hzk1 hzk2
  obtain ⟨p1, p2⟩ := mul_rng zj ((k : Int) - i) (by omega) (by omega) (by omega) (by omega)
  obtain ⟨p3, p4⟩ := mul_rng zi ((k : Int) - j) (by omega) (by omega) (by omega) (by omega)
  obtain ⟨p5, p6⟩ := mul_rng zk ((j : Int) - i) (by omega) (by omega) (by omega) (by omega)
  have hDeq := HDD.out
  obtain ⟨P1, e1⟩ : ∃ x, zj * ((k : Int) - i) = x := ⟨_, rfl⟩
  obtain ⟨P2, e2⟩ : ∃ x, zi * ((k : Int) - j) = x := ⟨_, rfl⟩
  obtain ⟨P3, e3⟩ : ∃ x, zk * ((j : Int) - i) = x := ⟨_, rfl⟩
  rw [e1, e2, e3] at hDeq
  rw [e1] at p1 p2
  rw [e2] at p3 p4
  rw [e3] at p5 p6
  have e4 : P1 - P2 - P3 = D := hDeq.symm
  obtain ⟨M, eM⟩ : ∃ x, max D (-D) = x := ⟨_, rfl⟩
  have hM : 0 ≤ M ∧ M ≤ 99 * ((k : Int) - i) := by omega
  obtain ⟨hM1, hM2⟩ := hM
  have hEq : (M + k - i - 1) / ((k : Int) - i) = E := by rw [HE.out, Int.zero_sub, eM]
  have hD1 := hd.1
  have hD2 := hd.2
  have hin : (i : Int) < n := by omega
  have hjn : (j : Int) < n := by omega
  have hkn : (k : Int) < n := by omega
  have hz0 : ¬ (k : Int) - i = 0 := by omega
  have hz1 : ((k : Int) - i == 0) = false := by rw [beq_eq_false_iff_ne]; exact hz0
  clear hc hok hv ezi ezj ezk hd hDeq HDD HE eE eD
  go_enter Try.func81, Try.ntmps81
  go_wp2
  go_quiet (fail)
  go_wp2
  go_ret
  exact ⟨ret_int hEq, _, rfl⟩

set_option maxHeartbeats 4000000 in
set_option maxRecDepth 20000 in
theorem l6hMost_q (v : Value) (lo hi n : Nat) (Z : Nat → Int) (i k : Nat) (w : World) (hv : RdI lo hi w v n Z) (hok : PrOk n Z) (hik : i < k) (hk : k < n) :
    Calls Try.prog 57 #[v, .int .i64 i, .int .i64 k] w (IqPost (erB Z i k) w) := by
  have hn20 := hok.1.2
  have HE := Lib.hid (fun (m j : Nat) (h1 : i < j) (h2 : j < k) => l6hError_q v lo hi n Z i j k (w.drewN m) (hv.same (fun _ _ _ => rfl)) hok h1 h2 hk)
  have HT := Lib.hid (fun (t : Nat) (ht : i + 1 + t ≤ k) => (⟨erM_nonneg Z i k t, erM_top hok.2 hn20 hik hk t ht⟩ : 0 ≤ erM Z i k t ∧ erM Z i k t ≤ 99))
  have HJ := Lib.hid (fun (j : Nat) (h1 : i < j) (h2 : j < k) => (⟨erJ_nonneg (z := Z) (i := i) (j := j) (k := k) hik, erJ_top hok.2 hn20 h1 h2 hk⟩ : 0 ≤ erJ Z i j k ∧ erJ Z i j k ≤ 99))
  have HB := Lib.hid (show erB Z i k = erM Z i k (k - i - 1) from rfl)
  obtain ⟨va, vc, rfl⟩ := hv.shape
  clear hv hok
  go_enter Try.func57, Try.ntmps57
  go_wp2
  go_loopw [7, 8] (fun o c wr => ∃ t : Nat, i + 1 + t ≤ k ∧ c = .int .i64 ((i + 1 + t : Nat) : Int) ∧ o = .int .i64 (erM Z i k t) ∧ ∃ m, wr = w.drewN m) (fun _ c _ => k - (intOf c).toNat)
  case atStart => exact ⟨0, by omega, by go_num, rfl, 0, rfl⟩
  case round =>
    obtain ⟨t, ht, rfl, rfl, m, rfl⟩ := hrel
    have HS := Lib.hid (show erM Z i k (t + 1) = max (erM Z i k t) (erJ Z i (i + 1 + t) k) from rfl)
    obtain ⟨hm1, hm2⟩ := HT.out t ht
    obtain ⟨j, ej⟩ : ∃ j, j = i + 1 + t := ⟨_, rfl⟩
    rw [← ej] at HS ⊢
    by_cases hlt : j < k
    · have hlt' : (j : Int) < k := by omega
      obtain ⟨he1, he2⟩ := HJ.out j (by omega) hlt
      have HC := Lib.hid (HE.out m j (by omega) hlt)
      obtain ⟨M, eM⟩ : ∃ M, erM Z i k t = M := ⟨_, rfl⟩
      obtain ⟨E, eE⟩ : ∃ E, erJ Z i j k = E := ⟨_, rfl⟩
      rw [eM] at hm1 hm2 HS ⊢
      rw [eE] at he1 he2 HC HS
      have HEJ := Lib.hid ej
      clear eM eE ej
      go_wp2_with fail
      refine HC.out.mono ?_
      rintro e w2 ⟨rfl, m2, rfl⟩
      go_wp2
      go_roundw
      case rel => exact ⟨t + 1, by have := HEJ.out; omega, by rw [show i + 1 + (t + 1) = j + 1 by have := HEJ.out; omega]; go_num, by rw [HS.out], m + m2, rfl⟩
      case measure => simp [intOf]; omega
    · have hlt' : ¬ (j : Int) < k := by omega
      have HF := Lib.hid (show erM Z i k t = erB Z i k by rw [HB.out, show k - i - 1 = t by omega])
      clear ej
      go_wp2
      go_ret
      exact ⟨ret_int HF.out, _, rfl⟩

theorem l6hMost_any (v : Value) (lo hi n : Nat) (Z : Nat → Int) (i k : Nat) (w : World) (hv : RdI lo hi w v n Z) (hh : hi ≤ w.heap.size) (hok : PrOk n Z) (hik : i < k) (hk : k < n) :
    Calls Try.prog 57 #[v, .int .i64 i, .int .i64 k] w (IntPost (erB Z i k) w) := (l6hMost_q v lo hi n Z i k w hv hok hik hk).mono fun _ _ h => h.int

end Go.Proofs.Ytmfdflkpbejpoaa
