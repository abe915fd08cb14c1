/- Profiles of the program: what is one, which points it has, the sight between two eyes as a closure, who sees whom. -/
import Derived.Test.YtgcebhmenffbjabPrM
namespace Go.Proofs.Ytgcebhmenffbjab
open Go.RowKit
set_option linter.unusedVariables false

theorem cells2e {w : World} {b : Nat} {x y : Value} {t : TypeId} (h : w.heap[b]? = some (.cells #[x, y] t (0, 0))) :
    w.cell? ⟨b, 0, none⟩ = some x ∧ w.cell? ⟨b, 1, none⟩ = some y ∧ w.frozen? ⟨b, 0, none⟩ = false ∧ w.frozen? ⟨b, 1, none⟩ = false :=
  ⟨by simp [World.cell?, h], by simp [World.cell?, h], by simp [World.frozen?, h], by simp [World.frozen?, h]⟩
theorem Try.sizeEye : (Try.prog.info? 70).map (·.size) = some 2 := by kernel_rfl

set_option maxHeartbeats 2000000 in
set_option maxRecDepth 20000 in
theorem profileOf_yes (v : Value) (lo hi n : Nat) (Z : Nat → Int) (w : World) (hv : RdI lo hi w v n Z) (hok : PrOk n Z) :
    Calls Try.prog 64 #[v] w fun e w' => e = .returned (.tuple #[v, .bool true]) ∧ w = w' := by
  obtain ⟨b, off, cap, rfl, h2, _, _, h6⟩ := hv.open (by have := hok.1.1; omega)
  have H6 := Lib.hid h6
  have HZ := Lib.hid hok.2
  obtain ⟨hn1, hn2⟩ := hok.1
  clear h6 hok hv
  go_enter Try.func64, Try.ntmps64
  go_wp2
  go_loop [16] (fun i => ∃ k : Nat, k ≤ n ∧ i = .int .i64 k) (fun i => n - (intOf i).toNat)
  case atStart => exact ⟨0, Nat.zero_le _, rfl⟩
  case round =>
    obtain ⟨k, hk, rfl⟩ := hrel
    by_cases hlt : k < n
    · have q1 := H6.out k hlt
      have hlt' : (k : Int) < n := by omega
      obtain ⟨hz1, hz2⟩ := HZ.out k hlt
      go_wp2_with fail
      refine (isHeight_yes _ _ hz1 hz2).mono ?_
      rintro e w' ⟨rfl, rfl⟩
      go_wp2
      go_round
      case rel => exact ⟨k + 1, by omega, by go_num⟩
      case measure => simp [intOf]; omega
    · go_wp2
      go_ret2
      exact ⟨rfl, rfl⟩

set_option maxHeartbeats 2000000 in
set_option maxRecDepth 20000 in
theorem profileOf_no (v : Value) (lo hi n : Nat) (Z : Nat → Int) (w : World) (hv : RdI lo hi w v n Z) (hok : ¬ PrOk n Z) :
    Calls Try.prog 64 #[v] w fun e w' => e = .returned (.tuple #[.slice none 0 0, .bool false]) ∧ w = w' := by
  by_cases h1 : n < 1
  · obtain ⟨ao, cap, rfl⟩ := hv.shape
    clear hok hv
    have h1' : (n : Int) < 1 := by omega
    go_enter Try.func64, Try.ntmps64
    go_wp2
    go_ret2
    exact ⟨rfl, rfl⟩
  · by_cases h3 : 20 < n
    · obtain ⟨ao, cap, rfl⟩ := hv.shape
      clear hok hv
      have h1' : ¬ (n : Int) < 1 := by omega
      have h3' : (20 : Int) < n := by omega
      go_enter Try.func64, Try.ntmps64
      go_wp2
      go_ret2
      exact ⟨rfl, rfl⟩
    · obtain ⟨b, off, cap, rfl, h2, _, _, h6⟩ := hv.open (by omega)
      have H6 := Lib.hid h6
      have HN := Lib.hid (show ¬ ∀ j, j < n → 0 ≤ Z j ∧ Z j ≤ 99 from fun g => hok ⟨⟨by omega, by omega⟩, g⟩)
      have h1' : ¬ (n : Int) < 1 := by omega
      have h3' : ¬ (20 : Int) < n := by omega
      clear h6 hok hv
      go_enter Try.func64, Try.ntmps64
      go_wp2
      go_loop [16] (fun i => ∃ k : Nat, k ≤ n ∧ i = .int .i64 k ∧ ∀ j, j < k → 0 ≤ Z j ∧ Z j ≤ 99) (fun i => n - (intOf i).toNat)
      case atStart => exact ⟨0, Nat.zero_le _, rfl, fun j hj => by omega⟩
      case round =>
        obtain ⟨k, hk, rfl, hd⟩ := hrel
        have HD := Lib.hid hd
        clear hd
        by_cases hlt : k < n
        · have q1 := H6.out k hlt
          have hlt' : (k : Int) < n := by omega
          by_cases hz : 0 ≤ Z k ∧ Z k ≤ 99
          · obtain ⟨hz1, hz2⟩ := hz
            go_wp2_with fail
            refine (isHeight_yes _ _ hz1 hz2).mono ?_
            rintro e w' ⟨rfl, rfl⟩
            go_wp2
            go_round
            case rel => exact ⟨k + 1, by omega, by go_num, fun j hj => by
              by_cases e : j = k
              · subst e; exact ⟨hz1, hz2⟩
              · exact HD.out j (by omega)⟩
            case measure => simp [intOf]; omega
          · go_wp2_with fail
            refine (isHeight_no _ _ (by omega)).mono ?_
            rintro e w' ⟨rfl, rfl⟩
            go_wp2
            go_ret2
            exact ⟨rfl, rfl⟩
        · exact absurd (fun j hj => HD.out j (by omega)) HN.out

set_option maxHeartbeats 2000000 in
set_option maxRecDepth 20000 in
theorem profileWith_yes (v u : Value) (lo hi lo2 hi2 n m : Nat) (Z Q : Nat → Int) (w : World) (hv : RdI lo hi w v n Z) (hu : RdI lo2 hi2 w u m Q) (hm : m ≤ 100) (hok : PrOk n Z) (hq : ∀ j, j < m → 0 ≤ Q j ∧ Q j < n) :
    Calls Try.prog 60 #[v, u] w fun e w' => e = .returned (.tuple #[v, .bool true]) ∧ w = w' := by
  have HC := Lib.hid (profileOf_yes v lo hi n Z w hv hok)
  obtain ⟨va, vc, rfl⟩ := hv.shape
  obtain ⟨ao, cap, b, off, rfl, h2, h3, h4, h5, h6⟩ := hu
  have H5 := Lib.hid h5
  have H6 := Lib.hid h6
  have HQ := Lib.hid hq
  have hn20 := hok.1.2
  clear h4 h5 h6 hq hok hv
  go_enter Try.func60, Try.ntmps60
  go_wp2_with fail
  refine HC.out.mono ?_
  rintro e w' ⟨rfl, rfl⟩
  go_wp2
  go_loop [19] (fun i => ∃ k : Nat, k ≤ m ∧ i = .int .i64 k) (fun i => m - (intOf i).toNat)
  case atStart => exact ⟨0, Nat.zero_le _, rfl⟩
  case round =>
    obtain ⟨k, hk, rfl⟩ := hrel
    by_cases hlt : k < m
    · obtain ⟨rfl, _, _⟩ := H5.out (by omega)
      have q1 := H6.out k hlt
      have hlt' : (k : Int) < m := by omega
      obtain ⟨hq1, hq2⟩ := HQ.out k hlt
      have hq3 : ¬ (Q k) < 0 := by omega
      have hq4 : ¬ (n : Int) ≤ Q k := by omega
      go_wp2
      go_round
      case rel => exact ⟨k + 1, by omega, by go_num⟩
      case measure => simp [intOf]; omega
    · go_wp2
      go_ret2
      exact ⟨rfl, rfl⟩

set_option maxHeartbeats 2000000 in
set_option maxRecDepth 20000 in
theorem profileWith_no (v u : Value) (lo hi lo2 hi2 n m : Nat) (Z Q : Nat → Int) (w : World) (hv : RdI lo hi w v n Z) (hu : RdI lo2 hi2 w u m Q) (hm : m ≤ 100) (hok : ¬ (PrOk n Z ∧ ∀ j, j < m → 0 ≤ Q j ∧ Q j < n)) :
    Calls Try.prog 60 #[v, u] w fun e w' => e = .returned (.tuple #[.slice none 0 0, .bool false]) ∧ w = w' := by
  by_cases hp : PrOk n Z
  · have HC := Lib.hid (profileOf_yes v lo hi n Z w hv hp)
    have HN := Lib.hid (show ¬ ∀ j, j < m → 0 ≤ Q j ∧ Q j < n from fun g => hok ⟨hp, g⟩)
    obtain ⟨va, vc, rfl⟩ := hv.shape
    obtain ⟨ao, cap, b, off, rfl, h2, h3, h4, h5, h6⟩ := hu
    have H5 := Lib.hid h5
    have H6 := Lib.hid h6
    have hn20 := hp.1.2
    clear h4 h5 h6 hok hp hv
    go_enter Try.func60, Try.ntmps60
    go_wp2_with fail
    refine HC.out.mono ?_
    rintro e w' ⟨rfl, rfl⟩
    go_wp2
    go_loop [19] (fun i => ∃ k : Nat, k ≤ m ∧ i = .int .i64 k ∧ ∀ j, j < k → 0 ≤ Q j ∧ Q j < n) (fun i => m - (intOf i).toNat)
    case atStart => exact ⟨0, Nat.zero_le _, rfl, fun j hj => by omega⟩
    case round =>
      obtain ⟨k, hk, rfl, hd⟩ := hrel
      have HD := Lib.hid hd
      clear hd
      by_cases hlt : k < m
      · obtain ⟨rfl, _, _⟩ := H5.out (by omega)
        have q1 := H6.out k hlt
        have hlt' : (k : Int) < m := by omega
        by_cases hq1 : 0 ≤ Q k
        · have hq3 : ¬ (Q k) < 0 := by omega
          by_cases hq2 : Q k < n
          · have hq4 : ¬ (n : Int) ≤ Q k := by omega
            go_wp2
            go_round
            case rel => exact ⟨k + 1, by omega, by go_num, fun j hj => by
              by_cases e : j = k
              · subst e; exact ⟨hq1, hq2⟩
              · exact HD.out j (by omega)⟩
            case measure => simp [intOf]; omega
          · have hq4 : (n : Int) ≤ Q k := by omega
            go_wp2
            go_ret2
            exact ⟨rfl, rfl⟩
        · have hq3 : (Q k) < 0 := by omega
          go_wp2
          go_ret2
          exact ⟨rfl, rfl⟩
      · exact absurd (fun j hj => HD.out j (by omega)) HN.out
  · have HC := Lib.hid (profileOf_no v lo hi n Z w hv hp)
    obtain ⟨va, vc, rfl⟩ := hv.shape
    obtain ⟨ua, uc, rfl⟩ := hu.shape
    clear hok hp hv hu
    go_enter Try.func60, Try.ntmps60
    go_wp2_with fail
    refine HC.out.mono ?_
    rintro e w' ⟨rfl, rfl⟩
    go_wp2
    go_ret2
    exact ⟨rfl, rfl⟩

/-- an eye -/
def eyeV (a : Nat) (ha : Int) : Value := .agg #[.int .i64 a, .int .i64 ha]

set_option maxHeartbeats 2000000 in
set_option maxRecDepth 20000 in
theorem eyeAt_any (v : Value) (lo hi n : Nat) (Z : Nat → Int) (i : Nat) (e : Int) (w : World) (hv : RdI lo hi w v n Z) (hok : PrOk n Z) (hin0 : i < n) (he : 0 ≤ e ∧ e ≤ 50) (hh : hi ≤ w.heap.size) :
    Calls Try.prog 71 #[v, .int .i64 i, .int .i64 e] w fun en w' => en = .returned (.agg #[.int .i64 i, .int .i64 (Z i + e)]) ∧ Below w.heap.size w w' := by
  obtain ⟨b, off, cap, rfl, h2, _, hbh, h6⟩ := hv.open (by omega)
  have hb0 := (Below.refl w.heap.size w).alloc (Nat.le_refl _) (.cells #[.int .i64 0, .int .i64 0] 70)
  have c1 := (hb0.cell (p := ⟨b, off + i, none⟩) (by show b < _; omega)).trans (h6 i hin0)
  obtain ⟨e0, e1, f0, f1⟩ := cells2e (heap_alloc_new w (.cells #[.int .i64 0, .int .i64 0] 70))
  obtain ⟨hz1, hz2⟩ := hok.2 i hin0
  obtain ⟨z, ez⟩ : ∃ z, Z i = z := ⟨_, rfl⟩
  rw [ez] at c1 hz1 hz2 ⊢
  have hin : (i : Int) < n := by omega
  obtain ⟨he1, he2⟩ := he
  have HE := Lib.hid (heap_alloc_new w (.cells #[.int .i64 i, .int .i64 (z + e)] 70))
  have HB3 := Lib.hid ((Below.refl w.heap.size w).alloc (Nat.le_refl _) (.cells #[.int .i64 i, .int .i64 (z + e)] 70))
  clear h6 hb0 hv ez hok
  go_enter Try.func71, Try.ntmps71
  go_wp2
  exact bodyPost_ret (results_cell_row rfl _ _ w.heap.size _ #[.int .i64 i, .int .i64 (z + e)] _ _ rfl HE.out Try.underlying70 rfl Try.sizeEye) rfl ⟨rfl, HB3.out⟩

set_option maxHeartbeats 2000000 in
set_option maxRecDepth 20000 in
theorem sight_any (va : Option Addr) (n vc : Nat) (a b : Nat) (ha hb : Int) (w : World) :
    Calls Try.prog 89 #[.slice va n vc, .agg #[.int .i64 a, .int .i64 ha], .agg #[.int .i64 b, .int .i64 hb]] w fun en w' => en = .returned (.func (.func 105) #[] #[.pointer (some ⟨w.heap.size + 1, 0, none⟩), .pointer (some ⟨w.heap.size + 2, 0, none⟩), .pointer (some ⟨w.heap.size, 0, none⟩)]) ∧
      w' = ((w.alloc (.cells #[.slice va n vc] 58)).alloc (.cells #[.int .i64 a, .int .i64 ha] 70)).alloc (.cells #[.int .i64 b, .int .i64 hb] 70) := by
  go_enter Try.func89, Try.ntmps89
  go_wp2
  go_ret
  exact ⟨rfl, rfl⟩

theorem callFunc_sight : ∀ (args : Array Value) (W : World), Sem.run Try.prog (callFunc 105 args) W = .ok (.enter 105 args) W := fun _ _ => by kernel_rfl

noncomputable def unB (z : Nat → Int) (a : Nat) (ha : Int) (b : Nat) (hb : Int) (j : Nat) : Bool := @decide (Und z a ha b hb j) (Classical.propDecidable _)
theorem unB_yes {z : Nat → Int} {a b j : Nat} {ha hb : Int} (h : Und z a ha b hb j) : unB z a ha b hb j = true := by simp [unB, h]
theorem unB_no {z : Nat → Int} {a b j : Nat} {ha hb : Int} (h : ¬ Und z a ha b hb j) : unB z a ha b hb j = false := by simp [unB, h]

set_option maxHeartbeats 2000000 in
set_option maxRecDepth 20000 in
theorem clos_sight (v : Value) (lo hi n : Nat) (Z : Nat → Int) (A B P a b j : Nat) (ha hb : Int) (w : World) (hv : RdI lo hi w v n Z) (hok : PrOk n Z) (hj : j < n) (haj : a ≤ j) (hjb : j ≤ b) (hbn : b < n)
    (hha : 0 ≤ ha ∧ ha ≤ 150) (hhb : 0 ≤ hb ∧ hb ≤ 150)
    (hP : w.cell? ⟨P, 0, none⟩ = some v) (hA0 : w.cell? ⟨A, 0, none⟩ = some (.int .i64 a)) (hA1 : w.cell? ⟨A, 1, none⟩ = some (.int .i64 ha))
    (hB0 : w.cell? ⟨B, 0, none⟩ = some (.int .i64 b)) (hB1 : w.cell? ⟨B, 1, none⟩ = some (.int .i64 hb)) :
    Calls Try.prog 105 #[.int .i64 j, .pointer (some ⟨A, 0, none⟩), .pointer (some ⟨B, 0, none⟩), .pointer (some ⟨P, 0, none⟩)] w (EqPost (unB Z a ha b hb j) w) := by
  have hn20 := hok.1.2
  obtain ⟨bb, off, cap, rfl, hcap, _, _, hc⟩ := hv.open (by omega)
  have cj := hc j hj
  obtain ⟨hzj1, hzj2⟩ := hok.2 j hj
  obtain ⟨ha1, ha2⟩ := hha
  obtain ⟨hb1, hb2⟩ := hhb
  have HU := Lib.hid (show Und Z a ha b hb j ↔ Z j * ((j : Int) - a + ((b : Int) - j)) ≤ ha * ((b : Int) - j) + hb * ((j : Int) - a) by
    unfold Und
    rw [show (j : Int) - a + ((b : Int) - j) = b - a by omega])
  obtain ⟨zj, ezj⟩ : ∃ x, Z j = x := ⟨_, rfl⟩
  rw [ezj] at cj hzj1 hzj2 HU
  obtain ⟨p1, p2⟩ := mul_rng zj ((j : Int) - a + ((b : Int) - j)) (by omega) (by omega) (by omega) (by omega)
  obtain ⟨p3, p4⟩ := mul_rng ha ((b : Int) - j) (by omega) (by omega) (by omega) (by omega)
  obtain ⟨p5, p6⟩ := mul_rng hb ((j : Int) - a) (by omega) (by omega) (by omega) (by omega)
  obtain ⟨P1, e1⟩ : ∃ x, zj * ((j : Int) - a + ((b : Int) - j)) = x := ⟨_, rfl⟩
  obtain ⟨P2, e2⟩ : ∃ x, ha * ((b : Int) - j) = x := ⟨_, rfl⟩
  obtain ⟨P3, e3⟩ : ∃ x, hb * ((j : Int) - a) = x := ⟨_, rfl⟩
  rw [e1, e2, e3] at HU
  rw [e1] at p1 p2
  rw [e2] at p3 p4
  rw [e3] at p5 p6
  have hjn : (j : Int) < n := by omega
  clear ezj hc hok hv
  by_cases hu : P1 ≤ P2 + P3
  · have HB := Lib.hid (unB_yes (HU.out.2 hu))
    clear HU
    go_enter Try.func105, Try.ntmps105
    go_wp2
    go_quiet (fail)
    go_wp2
    go_quiet (fail)
    go_wp2
    go_ret
    exact eq_post2 HB.out _ _ _
  · have HB := Lib.hid (unB_no (fun g => hu (HU.out.1 g)))
    have hu' : decide (P1 ≤ P2 + P3) = false := by simp; omega
    clear HU
    go_enter Try.func105, Try.ntmps105
    go_wp2
    go_quiet (fail)
    go_wp2
    go_quiet (fail)
    go_wp2
    go_ret
    exact eq_post2 HB.out _ _ _

end Go.Proofs.Ytgcebhmenffbjab
