/- Thinned lines of the program: what is one, the errors, chains counted and listed. -/
import Derived.Test.YtmfdflkpbejpoaaThS
import Derived.Test.YtmfdflkpbejpoaaPrI
import Derived.Test.YtmfdflkpbejpoaaKt
import Derived.Deep.LoopGhost
namespace Go.Proofs.Ytmfdflkpbejpoaa
open Go.RowKit
set_option linter.unusedVariables false

/-- a chain of knots, in any blocks -/
def Ch (w : World) : Value → List Int → Prop
  | v, [] => v = .pointer none
  | v, x :: l => ∃ (b : Nat) (u : Value), v = .pointer (some ⟨b, 0, none⟩) ∧ w.heap[b]? = some (.cells #[.int .i64 x, u] 76 (0, 0)) ∧ Ch w u l
theorem Kn.ch {lo : Nat} {w : World} : ∀ (l : List Int) {hi : Nat} {v : Value}, Kn lo w hi v l → Ch w v l
  | [], _, _, h => h
  | _ :: l, _, _, ⟨b, u, h1, h2, h3, h4, h5⟩ => ⟨b, u, h1, h4, Kn.ch l h5⟩
theorem Ch.keep {w w' : World} : ∀ (l : List Int) {v : Value}, Ch w v l → (∀ (b : Nat) c t, w.heap[b]? = some (Obj.cells c t (0, 0)) → w'.heap[b]? = some (Obj.cells c t (0, 0))) → Ch w' v l
  | [], _, h, _ => h
  | _ :: l, _, ⟨b, u, h1, h4, h5⟩, hk => ⟨b, u, h1, hk b _ _ h4, Ch.keep l h5 hk⟩
theorem Ch.below {w w' : World} {v : Value} {l : List Int} (h : Ch w v l) (hb : Below w.heap.size w w') : Ch w' v l :=
  Ch.keep l h (fun b c t hc => (hb.block b (Array.getElem?_eq_some_iff.1 hc).1).trans hc)
theorem Ch.drew {w : World} {v : Value} {l : List Int} (h : Ch w v l) (n : Nat) : Ch (w.drewN n) v l := Ch.keep l h (fun _ _ _ hc => hc)
theorem Ch.ptr {w : World} {v : Value} {l : List Int} (h : Ch w v l) : ∃ q, v = .pointer q := by
  cases l with
  | nil => exact ⟨_, h⟩
  | cons x l => obtain ⟨b, u, h1, _⟩ := h; exact ⟨_, h1⟩
theorem drop_at (l : List Int) (t : Nat) (h : t < l.length) : l.drop t = nsZ l t :: l.drop (t + 1) := by
  rw [List.drop_eq_getElem_cons h, nsZ, List.getD_eq_getElem?_getD, List.getElem?_eq_getElem h]; rfl
theorem take_snoc (l : List Int) (t : Nat) (h : t < l.length) : l.take (t + 1) = l.take t ++ [nsZ l t] := by
  rw [List.take_add_one, nsZ, List.getD_eq_getElem?_getD, List.getElem?_eq_getElem h]; rfl

theorem thOk_of {n : Nat} {Z : Nat → Int} {m : Nat} {Y : Nat → Int} (h : PrOk n Z) : ThOk n Z m Y ↔ 1 ≤ m ∧ Y 0 = 0 ∧ Y (m - 1) = (n : Int) - 1 ∧ ∀ i, i + 1 < m → Y i < Y (i + 1) := ⟨fun g => g.2, fun g => ⟨h, g⟩⟩

set_option maxHeartbeats 4000000 in
set_option maxRecDepth 20000 in
theorem isThinning_any (v u : Value) (lo hi lo2 hi2 n m : Nat) (Z Y : Nat → Int) (w : World) (hv : RdI lo hi w v n Z) (hu : RdI lo2 hi2 w u m Y) (hok : PrOk n Z) (hm : m ≤ 1048576) :
    Calls Try.prog 78 #[v, u] w (EqPost (thB n Z m Y) w) := by
  have hn20 := hok.1.2
  have hn1 := hok.1.1
  have HY := Lib.hid (fun (h : 1 ≤ m ∧ Y 0 = 0 ∧ Y (m - 1) = (n : Int) - 1 ∧ ∀ i, i + 1 < m → Y i < Y (i + 1)) => thB_yes ((thOk_of hok).2 h))
  have HN := Lib.hid (fun (h : ¬ (1 ≤ m ∧ Y 0 = 0 ∧ Y (m - 1) = (n : Int) - 1 ∧ ∀ i, i + 1 < m → Y i < Y (i + 1))) => thB_no (fun g => h ((thOk_of hok).1 g)))
  have HLEN := Lib.hid (fun (h : ¬ m ≤ n) => thB_no (n := n) (z := Z) (m := m) (y := Y) (fun g => h g.len))
  obtain ⟨va, vc, rfl⟩ := hv.shape
  obtain ⟨ao, cap, b, off, rfl, h2, h3, h4, h5, h6⟩ := hu
  have H5 := Lib.hid h5
  have H6 := Lib.hid h6
  clear h4 h5 h6 hv hok
  by_cases hm1 : 1 ≤ m
  case neg =>
    have HB := Lib.hid (HN.out (fun g => hm1 g.1))
    have hm1' : (m : Int) < 1 := by omega
    go_enter Try.func78, Try.ntmps78
    go_wp2
    go_ret
    exact eq_post0 HB.out _
  obtain ⟨rfl, _, _⟩ := H5.out (by omega)
  have hm1' : ¬ (m : Int) < 1 := by omega
  by_cases hmn : m ≤ n
  case neg =>
    have HB := Lib.hid (HLEN.out hmn)
    have hmn' : (n : Int) < m := by omega
    go_enter Try.func78, Try.ntmps78
    go_wp2
    go_ret
    exact eq_post0 HB.out _
  have hmn' : ¬ (n : Int) < m := by omega
  have c0 : w.cell? ⟨b, off, none⟩ = some (.int .i64 (Y 0)) := H6.out 0 (by omega)
  have hm0' : (0 : Int) < m := by omega
  by_cases hy0 : Y 0 = 0
  case neg =>
    have HB := Lib.hid (HN.out (fun g => hy0 g.2.1))
    obtain ⟨y, ey⟩ : ∃ y, Y 0 = y := ⟨_, rfl⟩
    rw [ey] at hy0 c0
    have hb0 : (y != 0) = true := by rw [bne_iff_ne]; exact hy0
    clear ey hy0
    go_enter Try.func78, Try.ntmps78
    go_wp2
    go_ret
    exact eq_post0 HB.out _
  rw [hy0] at c0
  obtain ⟨s, es⟩ : ∃ s, s = m - 1 := ⟨_, rfl⟩
  have hws : IntKind.i64.wrap ((m : Int) - 1) = (s : Int) := by rw [es, show ((m - 1 : Nat) : Int) = (m : Int) - 1 by omega]; exact IntWalk.i64_in _ (by omega)
  have hwn : IntKind.i64.wrap ((n : Int) - 1) = (n : Int) - 1 := IntWalk.i64_in _ (by omega)
  have hsm : s < m := by omega
  have hsm' : (s : Int) < m := by omega
  have c1 := H6.out s hsm
  rw [← es] at HY HN
  by_cases hyl : Y s = (n : Int) - 1
  case neg =>
    have HB := Lib.hid (HN.out (fun g => hyl g.2.2.1))
    obtain ⟨y, ey⟩ : ∃ y, Y s = y := ⟨_, rfl⟩
    rw [ey] at hyl c1
    have hb1 : (y != (n : Int) - 1) = true := by rw [bne_iff_ne]; exact hyl
    clear ey hyl es hy0
    go_enter Try.func78, Try.ntmps78
    go_wp2
    go_ret
    exact eq_post0 HB.out _
  have HYY := Lib.hid (fun (h : ∀ i, i + 1 < m → Y i < Y (i + 1)) => HY.out ⟨hm1, hy0, hyl, h⟩)
  have HNN := Lib.hid (fun (h : ¬ ∀ i, i + 1 < m → Y i < Y (i + 1)) => HN.out (fun g => h g.2.2.2))
  rw [hyl] at c1
  clear hyl es hy0
  go_enter Try.func78, Try.ntmps78
  go_wp2
  clear c0 c1 hws
  go_loopw [5] (fun i wr => ∃ k q : Nat, k + 1 ≤ m ∧ i = .int .i64 ((k + 1 : Nat) : Int) ∧ wr = w.drewN q ∧ ∀ j, j < k → Y j < Y (j + 1)) (fun i _ => m - (intOf i).toNat)
  case atStart => exact ⟨0, 0, by omega, by go_num, rfl, fun j hj => by omega⟩
  case round =>
    obtain ⟨k, q, hk, rfl, rfl, hd⟩ := hrel
    have HD := Lib.hid hd
    clear hd
    by_cases hlt : k + 1 < m
    · have hlt' : (k : Int) + 1 < m := by omega
      have q1 := H6.out k (by omega)
      have q2 := H6.out (k + 1) hlt
      have h0t : 0 ≤ (k : Int) := by omega
      have h0t1 : 0 ≤ (k : Int) + 1 := by omega
      have htn : ((k : Int) + 1).toNat = k + 1 := by omega
      have hw0 : IntKind.i64.wrap (k : Int) = (k : Int) := IntWalk.i64_in _ (by omega)
      have htm : (k : Int) < m := by omega
      have htm' : k < m := by omega
      have HDY := Lib.hid (fun (h : Y k < Y (k + 1)) => (show ∀ j, j < k + 1 → Y j < Y (j + 1) from fun j hj => by
        by_cases e : j = k
        · subst e; exact h
        · exact HD.out j (by omega)))
      have HDN := Lib.hid (fun (h : ¬ Y k < Y (k + 1)) => HNN.out (fun g => h (g k hlt)))
      obtain ⟨x, ex⟩ : ∃ x, Y k = x := ⟨_, rfl⟩
      obtain ⟨y, ey⟩ : ∃ y, Y (k + 1) = y := ⟨_, rfl⟩
      rw [ex] at q1
      rw [ey] at q2
      rw [ex, ey] at HDY HDN
      clear ex ey
      by_cases hxy : x < y
      · have HA := Lib.hid (HDY.out hxy)
        have hxy' : ¬ y ≤ x := by omega
        go_wp2
        go_quiet (fail)
        go_wp2
        go_roundw
        case rel => exact ⟨k + 1, q + nq, by omega, by go_num, rfl, HA.out⟩
        case measure => simp [intOf]; omega
      · have HA := Lib.hid (HDN.out hxy)
        have hxy' : y ≤ x := by omega
        go_wp2
        go_quiet (fail)
        go_wp2
        go_ret
        exact eq_post2 HA.out _ _ _
    · have hlt' : ¬ (k : Int) + 1 < m := by omega
      have HA := Lib.hid (HYY.out (fun i hi => HD.out i (by omega)))
      go_wp2
      go_ret
      exact eq_post HA.out _ _

/-- a profile and the line to which it is thinned -/
def TgPost (v : Value) (l : List Int) (w : World) (e : Ending) (w' : World) : Prop := ∃ x, e = .returned (.tuple #[v, x, .bool true]) ∧ Kn w.heap.size w' w'.heap.size x l ∧ Below w.heap.size w w'
def TnPost (w : World) (e : Ending) (w' : World) : Prop := e = .returned (.tuple #[.slice none 0 0, .pointer none, .bool false]) ∧ Below w.heap.size w w'

set_option maxHeartbeats 4000000 in
set_option maxRecDepth 20000 in
theorem thinningOf_yes (v u : Value) (lo hi lo2 hi2 n m : Nat) (Z Y : Nat → Int) (w : World) (hv : RdI lo hi w v n Z) (hu : RdI lo2 hi2 w u m Y) (hh2 : hi2 ≤ w.heap.size) (h : ThOk n Z m Y) :
    Calls Try.prog 52 #[v, u] w (TgPost v (fnL Y m) w) := by
  have hmn := h.len
  have hn20 := h.1.1.2
  have HP := Lib.hid (profileOf_yes v lo hi n Z w hv h.1)
  have HT := Lib.hid (isThinning_any v u lo hi lo2 hi2 n m Z Y w hv hu h.1 (by omega))
  have HB := Lib.hid (thB_yes h)
  obtain ⟨va, vc, rfl⟩ := hv.shape
  obtain ⟨b, off, cap, rfl, hcap, _, hbh, hc⟩ := hu.open (by have := h.2.1; omega)
  have HK := Lib.hid (fun (W : World) (hb : Below w.heap.size w W) => knotsOf_any b off m cap Y W (by omega) hcap (by have := hb.size; omega) (fun i hi => (hb.cell (p := ⟨b, off + i, none⟩) (by show b < _; omega)).trans (hc i hi)))
  clear hv hu h hc
  go_enter Try.func52, Try.ntmps52
  go_wp2_with fail
  refine HP.out.mono ?_
  rintro e w1 ⟨rfl, rfl⟩
  go_wp2_with fail
  refine HT.out.mono ?_
  rintro e w1 ⟨rfl, q, rfl⟩
  rw [HB.out]
  have hb1 := below_drewN (Below.refl w.heap.size w) q
  have HK1 := Lib.hid (HK.out _ hb1)
  have HB1 := Lib.hid hb1
  clear hb1
  go_wp2_with fail
  refine HK1.out.mono ?_
  rintro e w2 ⟨x, rfl, hk, hb⟩
  have HKN := Lib.hid hk
  have HB2 := Lib.hid (HB1.out.trans (hb.mono HB1.out.size))
  clear hk hb
  go_wp2
  go_ret3
  exact ⟨_, rfl, HKN.out, HB2.out⟩

set_option maxHeartbeats 4000000 in
set_option maxRecDepth 20000 in
theorem thinningOf_no (v u : Value) (lo hi lo2 hi2 n m : Nat) (Z Y : Nat → Int) (w : World) (hv : RdI lo hi w v n Z) (hu : RdI lo2 hi2 w u m Y) (hm : m ≤ 1048576) (h : ¬ ThOk n Z m Y) :
    Calls Try.prog 52 #[v, u] w (TnPost w) := by
  by_cases hok : PrOk n Z
  · have HP := Lib.hid (profileOf_yes v lo hi n Z w hv hok)
    have HT := Lib.hid (isThinning_any v u lo hi lo2 hi2 n m Z Y w hv hu hok hm)
    have HB := Lib.hid (thB_no h)
    obtain ⟨va, vc, rfl⟩ := hv.shape
    obtain ⟨ua, uc, rfl⟩ := hu.shape
    clear hv hu h hok
    go_enter Try.func52, Try.ntmps52
    go_wp2_with fail
    refine HP.out.mono ?_
    rintro e w1 ⟨rfl, rfl⟩
    go_wp2_with fail
    refine HT.out.mono ?_
    rintro e w1 ⟨rfl, q, rfl⟩
    rw [HB.out]
    go_wp2
    go_ret3
    exact ⟨rfl, below_drewN (Below.refl w.heap.size w) q⟩
  · have HP := Lib.hid (profileOf_no v lo hi n Z w hv hok)
    obtain ⟨va, vc, rfl⟩ := hv.shape
    obtain ⟨ua, uc, rfl⟩ := hu.shape
    clear hv hu h hok
    go_enter Try.func52, Try.ntmps52
    go_wp2_with fail
    refine HP.out.mono ?_
    rintro e w1 ⟨rfl, rfl⟩
    go_wp2
    go_ret3
    exact ⟨rfl, Below.refl _ _⟩

set_option maxHeartbeats 4000000 in
set_option maxRecDepth 20000 in
theorem errorAt_q (v : Value) (lo hi n : Nat) (Z : Nat → Int) (i j k : Nat) (w : World) (hv : RdI lo hi w v n Z) (hok : PrOk n Z) (hij : i < j) (hjk : j < k) (hk : k < n) :
    Calls Try.prog 87 #[v, .int .i64 i, .int .i64 j, .int .i64 k] w (IqPost (erJ Z i j k) w) := by
  have hn20 := hok.1.2
  obtain ⟨b, off, cap, rfl, hcap, _, _, hc⟩ := hv.open (by omega)
  have ci := hc i (by omega)
  have cj := hc j (by omega)
  have ck := hc k hk
  obtain ⟨hzi1, hzi2⟩ := hok.2 i (by omega)
  obtain ⟨hzj1, hzj2⟩ := hok.2 j (by omega)
  obtain ⟨hzk1, hzk2⟩ := hok.2 k hk
  have hd := erD_rng hok.2 hn20 hij hjk hk
  have HE := Lib.hid (show erJ Z i j k = (max (erD Z i j k) (0 - erD Z i j k) + k - i - 1) / ((k : Int) - i) from rfl)
  have hE0 := erJ_nonneg (z := Z) (i := i) (j := j) (k := k) (by omega)
  have hE1 := erJ_top hok.2 hn20 hij hjk hk
  have HDD := Lib.hid (show erD Z i j k = Z j * ((k : Int) - i) - Z i * ((k : Int) - j) - Z k * ((j : Int) - i) from rfl)
  obtain ⟨E, eE⟩ : ∃ x, erJ Z i j k = x := ⟨_, rfl⟩
  obtain ⟨D, eD⟩ : ∃ x, erD Z i j k = x := ⟨_, rfl⟩
  rw [eE] at hE0 hE1
  rw [eE, eD] at HE
  rw [eE]
  rw [eD] at hd HDD
  obtain ⟨zi, ezi⟩ : ∃ x, Z i = x := ⟨_, rfl⟩
  obtain ⟨zj, ezj⟩ : ∃ x, Z j = x := ⟨_, rfl⟩
  obtain ⟨zk, ezk⟩ : ∃ x, Z k = x := ⟨_, rfl⟩
  rw [ezi, ezj, ezk] at HDD
  rw [ezi] at ci hzi1 hzi2
  rw [ezj] at cj hzj1 hzj2
  rw [ezk] at ck hzk1 hzk2
  obtain ⟨p1, p2⟩ := mul_rng ((k : Int) - i) zj (by omega) (by omega) (by omega) (by omega)
  obtain ⟨p3, p4⟩ := mul_rng zi ((k : Int) - j) (by omega) (by omega) (by omega) (by omega)
  obtain ⟨p5, p6⟩ := mul_rng zk ((j : Int) - i) (by omega) (by omega) (by omega) (by omega)
  have hDeq := HDD.out
  rw [Int.mul_comm zj] at hDeq
  obtain ⟨P1, e1⟩ : ∃ x, ((k : Int) - i) * zj = x := ⟨_, rfl⟩
  obtain ⟨P2, e2⟩ : ∃ x, zi * ((k : Int) - j) = x := ⟨_, rfl⟩
  obtain ⟨P3, e3⟩ : ∃ x, zk * ((j : Int) - i) = x := ⟨_, rfl⟩
  rw [e1, e2, e3] at hDeq
  rw [e1] at p1 p2
  rw [e2] at p3 p4
  rw [e3] at p5 p6
  have e4 : P1 - P2 - P3 = D := hDeq.symm
  obtain ⟨M, eM⟩ : ∃ x, max D (-D) = x := ⟨_, rfl⟩
  have hM : 0 ≤ M ∧ M ≤ 99 * ((k : Int) - i) := by omega
  obtain ⟨hM1, hM2⟩ := hM
  have hEq : (M + ((k : Int) - i) - 1) / ((k : Int) - i) = E := by rw [HE.out, Int.zero_sub, eM, show M + ((k : Int) - i) - 1 = M + k - i - 1 by omega]
  have hD1 := hd.1
  have hD2 := hd.2
  have hin : (i : Int) < n := by omega
  have hjn : (j : Int) < n := by omega
  have hkn : (k : Int) < n := by omega
  have hz0 : ¬ (k : Int) - i = 0 := by omega
  have hz1 : ((k : Int) - i == 0) = false := by rw [beq_eq_false_iff_ne]; exact hz0
  clear hc hok hv ezi ezj ezk hd hDeq HDD HE eE eD
  go_enter Try.func87, Try.ntmps87
  go_wp2
  go_quiet (fail)
  go_wp2
  go_ret
  exact ⟨ret_int hEq, _, rfl⟩

set_option maxHeartbeats 4000000 in
set_option maxRecDepth 20000 in
theorem errorBetween_q (v : Value) (lo hi n : Nat) (Z : Nat → Int) (i k : Nat) (w : World) (hv : RdI lo hi w v n Z) (hok : PrOk n Z) (hik : i < k) (hk : k < n) :
    Calls Try.prog 80 #[v, .int .i64 i, .int .i64 k] w (IqPost (erB Z i k) w) := by
  have hn20 := hok.1.2
  have HE := Lib.hid (fun (m j : Nat) (h1 : i < j) (h2 : j < k) => errorAt_q v lo hi n Z i j k (w.drewN m) (hv.same (fun _ _ _ => rfl)) hok h1 h2 hk)
  have HT := Lib.hid (fun (t : Nat) (ht : i + 1 + t ≤ k) => (⟨erM_nonneg Z i k t, erM_top hok.2 hn20 hik hk t ht⟩ : 0 ≤ erM Z i k t ∧ erM Z i k t ≤ 99))
  have HJ := Lib.hid (fun (j : Nat) (h1 : i < j) (h2 : j < k) => (⟨erJ_nonneg (z := Z) (i := i) (j := j) (k := k) hik, erJ_top hok.2 hn20 h1 h2 hk⟩ : 0 ≤ erJ Z i j k ∧ erJ Z i j k ≤ 99))
  have HB := Lib.hid (show erB Z i k = erM Z i k (k - i - 1) from rfl)
  obtain ⟨va, vc, rfl⟩ := hv.shape
  clear hv hok
  go_enter Try.func80, Try.ntmps80
  go_wp2
  go_loopw [7, 8] (fun o c wr => ∃ t : Nat, i + 1 + t ≤ k ∧ c = .int .i64 ((i + 1 + t : Nat) : Int) ∧ o = .int .i64 (erM Z i k t) ∧ ∃ m, wr = w.drewN m) (fun _ c _ => k - (intOf c).toNat)
  case atStart => exact ⟨0, by omega, by go_num, rfl, 0, rfl⟩
  case round =>
    obtain ⟨t, ht, rfl, rfl, m, rfl⟩ := hrel
    have HS := Lib.hid (show erM Z i k (t + 1) = max (erM Z i k t) (erJ Z i (i + 1 + t) k) from rfl)
    obtain ⟨hm1, hm2⟩ := HT.out t ht
    obtain ⟨j, ej⟩ : ∃ j, j = i + 1 + t := ⟨_, rfl⟩
    rw [← ej] at HS ⊢
    by_cases hlt : j < k
    · have hlt' : (j : Int) < k := by omega
      obtain ⟨he1, he2⟩ := HJ.out j (by omega) hlt
      have HC := Lib.hid (HE.out m j (by omega) hlt)
      obtain ⟨M, eM⟩ : ∃ M, erM Z i k t = M := ⟨_, rfl⟩
      obtain ⟨E, eE⟩ : ∃ E, erJ Z i j k = E := ⟨_, rfl⟩
      rw [eM] at hm1 hm2 HS ⊢
      rw [eE] at he1 he2 HC HS
      have HEJ := Lib.hid ej
      clear eM eE ej
      go_wp2_with fail
      refine HC.out.mono ?_
      rintro e w2 ⟨rfl, m2, rfl⟩
      go_wp2
      go_roundw
      case rel => exact ⟨t + 1, by have := HEJ.out; omega, by rw [show i + 1 + (t + 1) = j + 1 by have := HEJ.out; omega]; go_num, by rw [HS.out], m + m2, rfl⟩
      case measure => simp [intOf]; omega
    · have hlt' : ¬ (j : Int) < k := by omega
      have HF := Lib.hid (show erM Z i k t = erB Z i k by rw [HB.out, show k - i - 1 = t by omega])
      clear ej
      go_wp2
      go_ret
      exact ⟨ret_int HF.out, _, rfl⟩


set_option maxHeartbeats 4000000 in
set_option maxRecDepth 20000 in
theorem errorAlong_q (v x : Value) (lo hi n m : Nat) (Z Y : Nat → Int) (w : World) (hv : RdI lo hi w v n Z) (h : ThOk n Z m Y) (hx : Ch w x (fnL Y m)) :
    Calls Try.prog 55 #[v, x] w (IqPost (erL Z Y (m - 1)) w) := by
  have hn20 := h.1.1.2
  have hmn := h.len
  have hm1 := h.2.1
  have HE := Lib.hid (fun (W : World) (hW : ∃ q, W = w.drewN q) (mm a b : Nat) (hab : a < b) (hbn : b < n) => errorBetween_q v lo hi n Z a b (W.drewN mm) (hv.same (fun _ _ _ => by obtain ⟨q, rfl⟩ := hW; rfl)) h.1 hab hbn)
  have HR := Lib.hid (fun (a b : Nat) (hab : a < b) (hbn : b < n) => (⟨erB_nonneg Z a b, erB_top h.1.2 hn20 hab hbn⟩ : 0 ≤ erB Z a b ∧ erB Z a b ≤ 99))
  have HL := Lib.hid (fun (t : Nat) (ht : t + 1 ≤ m) => (⟨erL_nonneg Z Y t, erL_top h t ht⟩ : 0 ≤ erL Z Y t ∧ erL Z Y t ≤ 99))
  have HG := Lib.hid (fun (t : Nat) (ht : t + 1 < m) => (show ∃ a b : Nat, Y t = a ∧ Y (t + 1) = b ∧ a < b ∧ b < n ∧ erL Z Y (t + 1) = max (erL Z Y t) (erB Z a b) from by
    have h1 := h.range t (by omega)
    have h2 := h.range (t + 1) ht
    have h3 := h.gap t ht
    exact ⟨(Y t).toNat, (Y (t + 1)).toNat, by omega, by omega, h3.1, h3.2, rfl⟩))
  have HDR := Lib.hid (fun (t : Nat) (ht : t < m) => (show (fnL Y m).drop t = Y t :: (fnL Y m).drop (t + 1) from by
    rw [drop_at _ _ (by rw [fnL_len]; exact ht), fnL_z Y m t ht]))
  have HDE := Lib.hid (show (fnL Y m).drop m = [] from List.drop_eq_nil_of_le (by rw [fnL_len]; exact Nat.le_refl _))
  have HX := Lib.hid hx
  obtain ⟨va, vc, rfl⟩ := hv.shape
  obtain ⟨xq, rfl⟩ := hx.ptr
  clear hv h hx
  go_enter Try.func55, Try.ntmps55
  go_wp2
  go_loopg [5, 6] m (fun g o c wr => ∃ (t q : Nat) (u : Value), t + 1 ≤ m ∧ g = m - t ∧ u = c ∧ Ch w u ((fnL Y m).drop t) ∧ o = .int .i64 (erL Z Y t) ∧ wr = w.drewN q)
  case atStart => exact ⟨0, 0, _, by omega, by omega, rfl, by rw [List.drop_zero]; exact HX.out, rfl, rfl⟩
  case round =>
    obtain ⟨t, q, u, ht, rfl, rfl, hch, rfl, hwr⟩ := hrel
    have HW := Lib.hid hwr
    replace hch : Ch wr u ((fnL Y m).drop t) := by rw [hwr]; exact hch.drew q
    obtain ⟨he1, he2⟩ := HL.out t ht
    rw [HDR.out t (by omega)] at hch
    obtain ⟨b1, u1, rfl, hb1, hch⟩ := hch
    obtain ⟨d1, d2, _, _⟩ := cells2e hb1
    by_cases hlt : t + 1 < m
    · obtain ⟨a, b', ea, eb, hab, hbn, hst⟩ := HG.out t hlt
      have HCH := Lib.hid hch
      rw [HDR.out (t + 1) hlt] at hch
      obtain ⟨b2, u2, rfl, hb2, hch⟩ := hch
      obtain ⟨d3, d4, _, _⟩ := cells2e hb2
      rw [ea] at d1
      rw [eb] at d3
      have HST := Lib.hid hst
      obtain ⟨hr1, hr2⟩ := HR.out a b' hab hbn
      have HEC := Lib.hid (fun (mm : Nat) => HE.out wr ⟨q, HW.out⟩ mm a b' hab hbn)
      obtain ⟨M, eM⟩ : ∃ M, erL Z Y t = M := ⟨_, rfl⟩
      obtain ⟨E, eE⟩ : ∃ E, erB Z a b' = E := ⟨_, rfl⟩
      rw [eM] at he1 he2 HST ⊢
      rw [eE] at hr1 hr2 HST HEC
      clear hst ea eb eM eE hb1 hb2 hch hwr
      go_wp2_with fail
      go_quiet ((go_at_call 80; exact Calls.quiet_of (HEC.out _)))
      go_wp2
      go_roundg (m - (t + 1))
      case measure => omega
      case rel => exact ⟨t + 1, q + nq, _, by omega, rfl, rfl, by have := HCH.out; rw [HW.out] at this; exact Ch.keep _ this (fun _ _ _ hc => hc), by rw [HST.out], by rw [HW.out, World.drewN_drewN]⟩
    · have ek : m = t + 1 := by omega
      have hnil : u1 = .pointer none := by rw [← ek, HDE.out] at hch; exact hch
      subst hnil
      have HF := Lib.hid (show erL Z Y t = erL Z Y (m - 1) by rw [show m - 1 = t by omega])
      clear ek hb1 hch hwr
      go_wp2
      go_ret
      exact ⟨ret_int HF.out, q, HW.out⟩

set_option maxHeartbeats 4000000 in
set_option maxRecDepth 20000 in
theorem count_any (x : Value) (l : List Int) (w : World) (hx : Ch w x l) (hl : l.length ≤ 100) :
    Calls Try.prog 64 #[x] w (fun e w' => e = .returned (.int .i64 l.length) ∧ w' = w) := by
  have HDR := Lib.hid (fun (t : Nat) (ht : t < l.length) => drop_at l t ht)
  have HDE := Lib.hid (show l.drop l.length = [] from List.drop_eq_nil_of_le (Nat.le_refl _))
  have HX := Lib.hid hx
  obtain ⟨xq, rfl⟩ := hx.ptr
  clear hx
  go_enter Try.func64, Try.ntmps64
  go_wp2
  go_loopg [0, 3] (l.length) (fun g c o wr => ∃ (t : Nat) (u : Value), t ≤ l.length ∧ g = l.length - t ∧ u = c ∧ Ch w u (l.drop t) ∧ o = .int .i64 t ∧ wr = w)
  case atStart => exact ⟨0, _, by omega, by omega, rfl, by rw [List.drop_zero]; exact HX.out, rfl, rfl⟩
  case round =>
    obtain ⟨t, u, ht, rfl, rfl, hch, rfl, rfl⟩ := hrel
    by_cases hlt : t < l.length
    · rw [HDR.out t hlt] at hch
      obtain ⟨b1, u1, rfl, hb1, hch⟩ := hch
      obtain ⟨d1, d2, _, _⟩ := cells2e hb1
      have HCH := Lib.hid hch
      obtain ⟨q1, rfl⟩ := hch.ptr
      have ht100 : t < 100 := by omega
      clear hch hb1
      go_wp2
      go_roundg (l.length - (t + 1))
      case measure => omega
      case rel => exact ⟨t + 1, _, by omega, rfl, rfl, HCH.out, by go_num, rfl⟩
    · have ek : t = l.length := by omega
      have hnil : u = .pointer none := by rw [ek, HDE.out] at hch; exact hch
      subst hnil
      have HF := Lib.hid (show (t : Int) = (l.length : Int) by rw [ek])
      clear ek hch
      go_wp2
      go_ret
      exact ⟨ret_int HF.out, rfl⟩

set_option maxHeartbeats 4000000 in
set_option maxRecDepth 20000 in
theorem points_any (x : Value) (l : List Int) (w : World) (hx : Ch w x l) (hl : l.length ≤ 100) :
    Calls Try.prog 67 #[x] w (NsPost l w) := by
  have HDR := Lib.hid (fun (t : Nat) (ht : t < l.length) => drop_at l t ht)
  have HTK := Lib.hid (fun (t : Nat) (ht : t < l.length) => take_snoc l t ht)
  have HDE := Lib.hid (show l.drop l.length = [] from List.drop_eq_nil_of_le (Nat.le_refl _))
  have HTE := Lib.hid (show l.take l.length = l from List.take_of_length_le (Nat.le_refl _))
  have HX := Lib.hid hx
  obtain ⟨i0, hi0, hz0, hz1, hz2⟩ := info_parts Try.infoI
  obtain ⟨xq, rfl⟩ := hx.ptr
  clear hx
  go_enter Try.func67, Try.ntmps67
  go_wp2
  go_loopg [0, 3] (l.length) (fun g c o wr => ∃ (t : Nat) (u r : Value), t ≤ l.length ∧ g = l.length - t ∧ u = c ∧ Ch w u (l.drop t) ∧ r = o ∧ Nums w.heap.size wr r (l.take t) ∧ Below w.heap.size w wr)
  case atStart => exact ⟨0, _, _, by omega, by omega, rfl, by rw [List.drop_zero]; exact HX.out, rfl, nums_none _ _, Below.refl _ _⟩
  case round =>
    obtain ⟨t, u, r, ht, rfl, rfl, hch, rfl, hli, hb⟩ := hrel
    by_cases hlt : t < l.length
    · have hch2 := hch.below hb
      rw [HDR.out t hlt] at hch2 hch
      obtain ⟨b1, u1, rfl, hb1, hch2⟩ := hch2
      obtain ⟨d1, d2, _, _⟩ := cells2e hb1
      obtain ⟨b1', u1', e1, hb1', hch⟩ := hch
      have e2 : b1 = b1' := by cases e1; rfl
      subst e2
      have e3 : u1 = u1' := by
        have h9 := (hb.block b1 (Array.getElem?_eq_some_iff.1 hb1').1).trans hb1'
        rw [hb1] at h9
        simp at h9; exact h9
      subst e3
      have D2W := Lib.hid (cells2e hb1').2.1
      have HCH := Lib.hid hch
      obtain ⟨q1, rfl⟩ := hch.ptr
      have hl1 : b1 < w.heap.size := (Array.getElem?_eq_some_iff.1 hb1').1
      have HLI := Lib.hid hli
      have HB := Lib.hid hb
      have HS := Lib.hid (HTK.out t hlt)
      have hln : (l.take t).length ≤ t := by rw [List.length_take]; omega
      have hs3 := hb.size
      have hl2 : b1 < wr.heap.size := by omega
      obtain ⟨y, ey⟩ : ∃ y, nsZ l t = y := ⟨_, rfl⟩
      obtain ⟨L, eL⟩ : ∃ L, l.take t = L := ⟨_, rfl⟩
      rw [ey] at d1 HS
      rw [eL] at HLI HS hln
      have ht100 : t < 100 := by omega
      clear hch hb1 hb1' hch2 hli hb ey eL e1
      go_wp2_with (first | (at_builtin; refine wpList_append_own _ rfl _ _ 23 rfl w.heap.size 3 i0 (.int .i64 0) 1 8 Try.underlying23 hi0 hz0 hz1 hz2 rfl (by decide) _ L.length (nsV L) rfl (HLI.out.alloc _) ⟨wr.heap.size, 0, none⟩ 1 1 [.int .i64 y] rfl rfl (World.news_of_block (cs := #[.int .i64 y]) (t := 3) (fr := (0, 0)) (heap_alloc_new wr _)) (by simp [Value.oneCell']) (by unfold maxLen; omega) (by omega) (by simp; omega) ?_; intro v' w4 hown4 hg4 _; have HB4 := Lib.hid ((HB.out.alloc HB.out.size (.cells #[.int .i64 y] 3)).grown hg4 (by simp; have := HB.out.size; omega) (fun k hk => (HLI.out.lt k hk).1)); have d2' := (HB4.out.cell (p := ⟨b1, 1, none⟩) hl1).trans D2W.out))
      have HL4 := Lib.hid (nums_push (L := L) (x := y) hown4)
      clear hown4 hg4
      go_wp2
      go_roundg (l.length - (t + 1))
      case measure => omega
      case rel => exact ⟨t + 1, _, _, by omega, rfl, rfl, HCH.out, rfl, by rw [HS.out]; exact HL4.out, HB4.out⟩
    · have ek : t = l.length := by omega
      have hnil : u = .pointer none := by rw [ek, HDE.out] at hch; exact hch
      subst hnil
      have HLI := Lib.hid (show Nums w.heap.size wr r l by rw [ek, HTE.out] at hli; exact hli)
      have HB := Lib.hid hb
      clear ek hch hli hb
      go_wp2
      go_ret
      exact NsPost.mk' rfl HLI.out HB.out

end Go.Proofs.Ytmfdflkpbejpoaa
