/- The small functions of the exact laws: sizes, copies, comparisons. -/
import Derived.Test.YtdjlobppnhokoaaBase
import Derived.Test.YtdjlobppnhokoaaRows
namespace Go.Proofs.Ytdjlobppnhokoaa
open Go.RowKit
set_option linter.unusedVariables false

def SzIPost (n : Nat) (l : Int) (w : World) (e : Ending) (w' : World) : Prop := ((l < n ∧ e = .returned (.int .i64 (-1))) ∨ (n ≤ l ∧ e = .returned (.int .i64 (l - n)))) ∧ w = w'

set_option maxHeartbeats 400000 in
theorem szIntS_any (ao : Option Addr) (n cap : Nat) (l : Int) (w : World) (hn : n ≤ 9223372036854775807) (h0 : 0 ≤ l) (h1 : l ≤ 1048576) :
    Calls Try.prog 46 #[.slice ao n cap, .int .i64 l] w (SzIPost n l w) := by
  by_cases h : l < n
  · go_enter Try.func46, Try.ntmps46
    go_wp2
    go_ret
    exact ⟨Or.inl ⟨h, rfl⟩, rfl⟩
  · go_enter Try.func46, Try.ntmps46
    go_wp2
    go_ret
    exact ⟨Or.inr ⟨by omega, rfl⟩, rfl⟩

theorem Try.infoI : (Try.prog.info? 3).map (fun i => (i.zero, i.size, i.bytes)) = some (some (.int .i64 0), 1, 8) := by kernel_rfl
theorem Try.infoR : (Try.prog.info? 27).map (fun i => (i.zero, i.size, i.bytes)) = some (some (.slice none 0 0), 1, 24) := by kernel_rfl

set_option maxHeartbeats 1000000 in
theorem toIntS_any (v : Value) (lo hi n : Nat) (Z : Nat → Int) (w : World) (hv : RdI lo hi w v n Z) (hn : n ≤ 1048576) (hh : hi ≤ w.heap.size) :
    Calls Try.prog 50 #[v] w fun e w' => e = .returned (.slice (some ⟨w.heap.size, 0, none⟩) n n) ∧ w'.heap.size = w.heap.size + 1 ∧ w'.rowIs w.heap.size 3 n (fun i => .int .i64 (Z i)) ∧ Below w.heap.size w w' := by
  obtain ⟨ao, cap, b, off, rfl, h2, h3, h4, h5, h6⟩ := hv
  have hmk := run_make_row' (P := Try.prog) 27 3 (.int .i64 0) 8 Try.underlying27 Try.infoI rfl .i64 .i64 n (by omega) (by omega)
  go_enter Try.func50, Try.ntmps50
  go_wp2
  clear hmk
  go_loopw [4] (fun i wr => ∃ k : Nat, k ≤ n ∧ i = .int .i64 k ∧ wr.heap.size = w.heap.size + 1 ∧ wr.rowIs w.heap.size 3 n (fun j => if j < k then .int .i64 (Z j) else .int .i64 0) ∧ Below w.heap.size w wr)
    (fun i _ => n - (intOf i).toNat)
  case atStart => exact ⟨0, Nat.zero_le _, rfl, by simp, (World.rowIs_made w _ n 3).congr (fun j _ => by simp), (Below.refl _ _).alloc (Nat.le_refl _) _⟩
  case round =>
    obtain ⟨k, hk, rfl, hsz, hrow, hbel⟩ := hrel
    have Hs := Lib.hid hsz
    clear hsz
    by_cases hlt : k < n
    · obtain ⟨rfl, hb1, hb2⟩ := h5 (by omega)
      have c1 : wr.cell? ⟨b, off + k, none⟩ = some (.int .i64 (Z k)) := (hbel.cell (p := ⟨b, off + k, none⟩) (by show b < _; omega)).trans (h6 k hlt)
      have c2 : wr.cell? ⟨w.heap.size, k, none⟩ = some (.int .i64 0) := by simpa using hrow.cell hlt
      have c3 : wr.frozen? ⟨w.heap.size, k, none⟩ = false := hrow.frozen k
      have R1 := (hrow.set k (.int .i64 (Z k))).congr (g := fun j => if j < k + 1 then .int .i64 (Z j) else .int .i64 0) (fun j hj => by
        by_cases e : j = k
        · subst e; simp
        · by_cases e2 : j < k
          · simp [e, e2, Nat.lt_succ_of_lt e2]
          · have : ¬ j < k + 1 := by omega
            simp [e, e2, this])
      have R2 := hbel.setCell (p := ⟨w.heap.size, k, none⟩) (Nat.le_refl _) (.int .i64 (Z k))
      have R3 := Lib.hid (show (wr.setCell ⟨w.heap.size, k, none⟩ (.int .i64 (Z k))).heap.size = w.heap.size + 1 by simpa [World.setCell] using Hs.out)
      clear h5 h6 h4 hbel hrow Hs
      go_wp2
      go_roundw
      case rel => exact ⟨k + 1, by omega, by go_num, R3.out, R1, R2⟩
      case measure => simp [intOf]; omega
    · have e : k = n := by omega
      subst e
      have R1 := hrow.congr (g := fun i => .int .i64 (Z i)) (fun j hj => by simp [hj])
      clear h5 h6 h4 hrow
      go_wp2
      go_ret
      exact ⟨rfl, Hs.out, R1, hbel⟩


/-- what the size of a grid leaves -/
def SzPost (g : G) (w : World) (e : Ending) (w' : World) : Prop :=
  (e = .returned (.int .i64 (-1)) ∨ ∃ l : Int, 0 ≤ l ∧ l ≤ 1048576 ∧ e = .returned (.int .i64 l) ∧ g.n ≤ 1048576 ∧ ∀ r, r < g.n → g.len r ≤ 1048576) ∧ w = w'

set_option maxHeartbeats 1000000 in
theorem szIntSS_any (v : Value) (lo hi : Nat) (g : G) (w : World) (l : Int) (hv : RdM lo hi w v g) (h0 : 0 ≤ l) (h1 : l ≤ 1048576) :
    Calls Try.prog 15 #[v, .int .i64 l] w (SzPost g w) := by
  obtain ⟨ao, cap, b, off, Ao, Cp, rfl, h2, h3, h5, h6, h7⟩ := hv
  by_cases hsm : l < g.n
  · go_enter Try.func15, Try.ntmps15
    go_wp2
    go_ret
    exact ⟨Or.inl rfl, rfl⟩
  · go_enter Try.func15, Try.ntmps15
    go_wp2
    go_loop [1, 5] (fun x i => ∃ k : Nat, k ≤ g.n ∧ i = .int .i64 k ∧ ∃ m : Int, 0 ≤ m ∧ m ≤ 1048576 ∧ x = .int .i64 m ∧ ∀ r, r < k → g.len r ≤ 1048576) (fun _ i => g.n - (intOf i).toNat)
    case atStart => exact ⟨0, Nat.zero_le _, rfl, l - g.n, by omega, by omega, rfl, fun r hr => by omega⟩
    case round =>
      obtain ⟨k, hk, rfl, m, hm0, hm1, rfl, hl⟩ := hrel
      have HL := Lib.hid hl
      clear hl
      by_cases hlt : k < g.n
      · obtain ⟨rfl, hb1, hb2⟩ := h5 (by omega)
        have c1 := h6 k hlt
        have hlen : g.len k ≤ 9223372036854775807 := by
          obtain ⟨_, _, _, _, e1, e2, e3, _⟩ := h7 k hlt
          simp only [Value.slice.injEq] at e1
          omega
        clear h5 h6 h7
        go_wp2_with fail
        refine (szIntS_any _ (g.len k) _ m _ hlen hm0 hm1).mono ?_
        rintro e w' ⟨⟨hq, rfl⟩ | ⟨hq, rfl⟩, rfl⟩
        · go_wp2
          go_ret
          exact ⟨Or.inl rfl, rfl⟩
        · go_wp2
          go_round
          case rel => exact ⟨k + 1, by omega, by go_num, m - g.len k, by omega, by omega, rfl, fun r hr => by
            by_cases e : r = k
            · subst e; omega
            · exact HL.out r (by omega)⟩
          case measure => simp [intOf]; omega
      · have e : k = g.n := by omega
        subst e
        clear h5 h6 h7
        go_wp2
        go_ret
        exact ⟨Or.inr ⟨m, hm0, hm1, rfl, by omega, HL.out⟩, rfl⟩

/-- the new grid of toIntSS: the outer row, then a block a row -/
def Made (N : Nat) (w : World) (g : G) (k : Nat) : Prop :=
  w.heap.size = N + 1 + k ∧ w.rowIs N 27 g.n (fun r => if r < k then .slice (some ⟨N + 1 + r, 0, none⟩) (g.len r) (g.len r) else .slice none 0 0) ∧
    ∀ r, r < k → w.rowIs (N + 1 + r) 3 (g.len r) (fun c => .int .i64 (g.z r c))

theorem Made.ow {N : Nat} {w : World} {g : G} (h : Made N w g g.n) (hn : g.n ≤ 1048576) (hl : ∀ r, r < g.n → g.len r ≤ 1048576) (hz : ∀ r, r < g.n → ∀ c, c < g.len r → -9223372036854775808 ≤ g.z r c ∧ g.z r c ≤ 9223372036854775807) :
    OwM N w.heap.size w (.slice (some ⟨N, 0, none⟩) g.n g.n) g := by
  obtain ⟨h1, h2, h3⟩ := h
  refine Or.inr ⟨N, fun r => N + 1 + r, rfl, by omega, Nat.le_refl _, by omega, h2.congr (fun i hi => by simp [hi]), fun r hr => ⟨?_, ?_, ?_, by have := hl r hr; omega, h3 r hr, hz r hr⟩, fun r s _ _ e => ?_⟩ <;> dsimp only at * <;> omega

theorem RdM.range {lo hi : Nat} {w : World} {v : Value} {g : G} (h : RdM lo hi w v g) : ∀ r, r < g.n → ∀ c, c < g.len r → -9223372036854775808 ≤ g.z r c ∧ g.z r c ≤ 9223372036854775807 := by
  obtain ⟨_, _, _, _, _, _, _, _, _, _, _, h7⟩ := h
  intro r hr c hc
  obtain ⟨_, _, _, _, _, _, _, h4, _⟩ := h7 r hr
  exact h4 c hc

theorem made_step {w wr w1 : World} {g : G} {k : Nat} (hk : k < g.n) (hm : Made w.heap.size wr g k) (hbel : Below w.heap.size w wr) (hsz : w1.heap.size = wr.heap.size + 1) (hrow : w1.rowIs wr.heap.size 3 (g.len k) (fun c => .int .i64 (g.z k c))) (hb1 : Below wr.heap.size wr w1) :
    Made w.heap.size (w1.setCell ⟨w.heap.size, k, none⟩ (.slice (some ⟨wr.heap.size, 0, none⟩) (g.len k) (g.len k))) g (k + 1) ∧ Below w.heap.size w (w1.setCell ⟨w.heap.size, k, none⟩ (.slice (some ⟨wr.heap.size, 0, none⟩) (g.len k) (g.len k))) ∧
      w1.cell? ⟨w.heap.size, k, none⟩ = some (.slice none 0 0) ∧ w1.frozen? ⟨w.heap.size, k, none⟩ = false := by
  obtain ⟨m1, m2, m3⟩ := hm
  have hN : w.heap.size < wr.heap.size := by omega
  have m2' := m2.of_block (hb1.block w.heap.size hN)
  refine ⟨⟨by simp [World.setCell]; omega, ?_, fun r hr => ?_⟩, ?_, ?_, ?_⟩
  · refine (m2'.set k _).congr (fun j hj => ?_)
    by_cases e : j = k
    · subst e; simp [m1]
    · by_cases e2 : j < k
      · simp [e, e2, Nat.lt_succ_of_lt e2]
      · have : ¬ j < k + 1 := by omega
        simp [e, e2, this]
  · refine World.rowIs.setOther ?_ (by show w.heap.size + 1 + r ≠ w.heap.size; omega) _
    by_cases e : r = k
    · subst e; rw [m1] at hrow; exact hrow
    · exact (m3 r (by omega)).of_block (hb1.block _ (by omega))
  · exact (hbel.trans (hb1.mono hbel.size)).setCell (Nat.le_refl _) _
  · simpa using m2'.cell hk
  · exact m2'.frozen k

/-- what toIntSS leaves -/
def ToPost (g : G) (w : World) (e : Ending) (w' : World) : Prop :=
  e = .returned (.slice (some ⟨w.heap.size, 0, none⟩) g.n g.n) ∧ OwM w.heap.size w'.heap.size w' (.slice (some ⟨w.heap.size, 0, none⟩) g.n g.n) g ∧ Below w.heap.size w w'

set_option maxHeartbeats 1000000 in
theorem toIntSS_any (v : Value) (lo hi : Nat) (g : G) (w : World) (hv : RdM lo hi w v g) (hn : g.n ≤ 1048576) (hl : ∀ r, r < g.n → g.len r ≤ 1048576) (hh : hi ≤ w.heap.size) :
    Calls Try.prog 17 #[v] w (ToPost g w) := by
  have hz := hv.range
  have HZ := Lib.hid hz
  clear hz
  obtain ⟨ao, cap, b, off, Ao, Cp, rfl, h2, h3, h5, h6, h7⟩ := hv
  have hmk := run_make_row' (P := Try.prog) 22 27 (.slice none 0 0) 24 Try.underlying22 Try.infoR rfl .i64 .i64 g.n (by omega) (by omega)
  have HL := Lib.hid hl
  clear hl
  go_enter Try.func17, Try.ntmps17
  go_wp2
  clear hmk
  go_loopw [4] (fun i wr => ∃ k : Nat, k ≤ g.n ∧ i = .int .i64 k ∧ Made w.heap.size wr g k ∧ Below w.heap.size w wr)
    (fun i _ => g.n - (intOf i).toNat)
  case atStart => exact ⟨0, Nat.zero_le _, rfl, ⟨by simp, (World.rowIs_made w _ g.n 27).congr (fun j _ => by simp), fun r hr => by omega⟩, (Below.refl _ _).alloc (Nat.le_refl _) _⟩
  case round =>
    obtain ⟨k, hk, rfl, hmd, hbel⟩ := hrel
    by_cases hlt : k < g.n
    · obtain ⟨rfl, hb1, hb2⟩ := h5 (by omega)
      have c1 : wr.cell? ⟨b, off + k, none⟩ = some (.slice (Ao k) (g.len k) (Cp k)) := (hbel.cell (p := ⟨b, off + k, none⟩) (by show b < _; omega)).trans (h6 k hlt)
      have hr : RdI lo hi wr (.slice (Ao k) (g.len k) (Cp k)) (g.len k) (g.z k) := (h7 k hlt).same (SameIn.below hbel hh)
      have hlk := HL.out k hlt
      have hsz : hi ≤ wr.heap.size := Nat.le_trans hh hbel.size
      clear h5 h6 h7
      go_wp2_with fail
      refine (toIntS_any _ lo hi (g.len k) (g.z k) _ hr hlk hsz).mono ?_
      rintro e w1 ⟨rfl, q1, q2, q3⟩
      obtain ⟨s1, s2, s3, s4⟩ := made_step hlt hmd hbel q1 q2 q3
      clear q1 q2 q3 hmd hbel hr hsz c1
      go_wp2
      go_roundw
      case rel => exact ⟨k + 1, by omega, by go_num, s1, s2⟩
      case measure => simp [intOf]; omega
    · have e : k = g.n := by omega
      subst e
      clear h5 h6 h7
      go_wp2
      go_ret
      exact ⟨rfl, hmd.ow hn HL.out HZ.out, hbel⟩


/-- what a comparison leaves -/
def EqPost (b : Bool) (w : World) (e : Ending) (w' : World) : Prop := e = .returned (.bool b) ∧ ∃ n, w' = w.drewN n

set_option maxHeartbeats 1000000 in
theorem eqIntS_no (a1 a2 : Option Addr) (n1 n2 c1 c2 : Nat) (w : World) (h1 : n1 ≤ 9223372036854775807) (h2 : n2 ≤ 9223372036854775807) (hne : n1 ≠ n2) :
    Calls Try.prog 24 #[.slice a1 n1 c1, .slice a2 n2 c2] w (EqPost false w) := by
  have hb : ((n1 : Int) != n2) = true := by rw [bne_iff_ne]; omega
  go_enter Try.func24, Try.ntmps24
  go_wp2
  go_ret
  exact ⟨rfl, 0, rfl⟩

set_option maxHeartbeats 1000000 in
theorem eqIntS_any (v1 v2 : Value) (lo1 hi1 lo2 hi2 n : Nat) (Z1 Z2 : Nat → Int) (w : World) (h1 : RdI lo1 hi1 w v1 n Z1) (h2 : RdI lo2 hi2 w v2 n Z2) (heq : ∀ i, i < n → Z1 i = Z2 i) :
    Calls Try.prog 24 #[v1, v2] w (EqPost true w) := by
  obtain ⟨ao, cap, b, off, rfl, a2, a3, a4, a5, a6⟩ := h1
  obtain ⟨ao', cap', b', off', rfl, b2, b3, b4, b5, b6⟩ := h2
  have HE := Lib.hid heq
  clear heq a4 b4
  have hb : ((n : Int) != n) = false := by simp
  go_enter Try.func24, Try.ntmps24
  go_wp2
  go_loopw [5] (fun i wr => ∃ k m : Nat, k ≤ n ∧ i = .int .i64 k ∧ wr = w.drewN m) (fun i _ => n - (intOf i).toNat)
  case atStart => exact ⟨0, 0, Nat.zero_le _, rfl, rfl⟩
  case round =>
    obtain ⟨k, m, hk, rfl, rfl⟩ := hrel
    by_cases hlt : k < n
    · obtain ⟨rfl, _, _⟩ := a5 (by omega)
      obtain ⟨rfl, _, _⟩ := b5 (by omega)
      have q1 := a6 k hlt
      have q2 := b6 k hlt
      rw [HE.out k hlt] at q1
      have hx : (Z2 k != Z2 k) = false := by simp
      clear a5 b5 a6 b6
      have hlt' : (k : Int) < n := by omega
      go_wp2
      go_quiet (fail)
      go_wp2
      go_roundw
      case rel => exact ⟨k + 1, m + nq, by omega, by go_num, rfl⟩
      case measure => simp [intOf]; omega
    · clear a5 b5 a6 b6
      go_wp2
      go_ret
      exact ⟨rfl, m, rfl⟩

theorem _root_.Go.Calls.quiet_of' {P : Program} {f : FuncId} {args : Array Value} {w : World} {a n : Nat} {b : Bool}
    (h : Calls P f args (w.drewN (a + n)) (EqPost b (w.drewN (a + n)))) : Calls P f args (w.drewN (a + n)) fun e w'' => e = .returned (.bool b) ∧ ∃ m, w'' = w.drewN (a + m) :=
  h.mono fun _ _ ⟨he, m, hm⟩ => ⟨he, n + m, by rw [hm, World.drewN_drewN, Nat.add_assoc]⟩

set_option maxHeartbeats 1000000 in
theorem eqIntSS_any (v1 v2 : Value) (lo1 hi1 lo2 hi2 : Nat) (g : G) (w : World) (h1 : RdM lo1 hi1 w v1 g) (h2 : RdM lo2 hi2 w v2 g) :
    Calls Try.prog 19 #[v1, v2] w (EqPost true w) := by
  obtain ⟨ao, cap, b, off, Ao, Cp, rfl, a2, a3, a5, a6, a7⟩ := h1
  obtain ⟨ao', cap', b', off', Ao', Cp', rfl, b2, b3, b5, b6, b7⟩ := h2
  have hb : ((g.n : Int) != g.n) = false := by simp
  go_enter Try.func19, Try.ntmps19
  go_wp2
  go_loopw [5] (fun i wr => ∃ k m : Nat, k ≤ g.n ∧ i = .int .i64 k ∧ wr = w.drewN m) (fun i _ => g.n - (intOf i).toNat)
  case atStart => exact ⟨0, 0, Nat.zero_le _, rfl, rfl⟩
  case round =>
    obtain ⟨k, m, hk, rfl, rfl⟩ := hrel
    by_cases hlt : k < g.n
    · obtain ⟨rfl, _, _⟩ := a5 (by omega)
      obtain ⟨rfl, _, _⟩ := b5 (by omega)
      have q1 := a6 k hlt
      have q2 := b6 k hlt
      have r1 := a7 k hlt
      have r2 := b7 k hlt
      have hcon : ∀ W : World, SameIn lo1 hi1 w W → SameIn lo2 hi2 w W → Calls Try.prog 24 #[.slice (Ao k) (g.len k) (Cp k), .slice (Ao' k) (g.len k) (Cp' k)] W (EqPost true W) :=
        fun W e1 e2 => eqIntS_any _ _ lo1 hi1 lo2 hi2 (g.len k) (g.z k) (g.z k) W (r1.same e1) (r2.same e2) (fun _ _ => rfl)
      have HC := Lib.hid hcon
      clear hcon a5 b5 a6 b6 a7 b7 r1 r2
      have hlt' : (k : Int) < g.n := by omega
      go_wp2
      go_quiet ((go_at_call 24; exact Calls.quiet_of' (HC.out _ (fun _ _ _ => rfl) (fun _ _ _ => rfl))))
      go_wp2
      go_roundw
      case rel => exact ⟨k + 1, m + nq, by omega, by go_num, rfl⟩
      case measure => simp [intOf]; omega
    · clear a5 b5 a6 b6 a7 b7
      go_wp2
      go_ret
      exact ⟨rfl, m, rfl⟩

/-- how many numbers lie ahead of row r -/
def G.off (g : G) : Nat → Nat
  | 0 => 0
  | r + 1 => g.off r + g.len r

theorem G.off_le (g : G) (hl : ∀ r, r < g.n → g.len r ≤ 1048576) : ∀ r, r ≤ g.n → g.off r ≤ r * 1048576 := by
  intro r
  induction r with
  | zero => intro _; simp [G.off]
  | succ r ih =>
    intro h
    have h1 := ih (by omega)
    have h2 := hl r (by omega)
    simp only [G.off]
    omega

theorem G.off_mono (g : G) : ∀ r s, r ≤ s → g.off r ≤ g.off s := by
  intro r s h
  induction h with
  | refl => exact Nat.le_refl _
  | step _ ih => exact Nat.le_trans ih (Nat.le_add_right _ _)

/-- the grid that has been marked from k on -/
def G.mark (g : G) (k : Int) : G := { n := g.n, len := g.len, z := fun r c => k + g.off r + c }

def MkIPost (b n : Nat) (k : Int) (w : World) (e : Ending) (w' : World) : Prop :=
  e = .returned (.int .i64 (k + n)) ∧ w'.rowIs b 3 n (fun i => .int .i64 (k + i)) ∧ Chg b (b + 1) w w' ∧ w'.heap.size = w.heap.size

set_option maxHeartbeats 1000000 in
theorem markIntS_any (b n : Nat) (F : Nat → Int) (k : Int) (w : World) (h : w.rowIs b 3 n (fun i => .int .i64 (F i))) (h0 : 0 ≤ k) (h1 : k ≤ 4398046511104) (hn : n ≤ 1048576) :
    Calls Try.prog 26 #[.slice (some ⟨b, 0, none⟩) n n, .int .i64 k] w (MkIPost b n k w) := by
  go_enter Try.func26, Try.ntmps26
  go_wp2
  go_loopw [1, 5] (fun x i wr => ∃ r : Nat, r ≤ n ∧ i = .int .i64 r ∧ x = .int .i64 (k + r) ∧ wr.rowIs b 3 n (fun j => if j < r then .int .i64 (k + j) else .int .i64 (F j)) ∧ Chg b (b + 1) w wr ∧ wr.heap.size = w.heap.size)
    (fun _ i _ => n - (intOf i).toNat)
  case atStart => exact ⟨0, Nat.zero_le _, rfl, by go_num, h.congr (fun j _ => by simp), Chg.refl _ _ _, rfl⟩
  case round =>
    obtain ⟨r, hr, rfl, rfl, hrow, hchg, hsz⟩ := hrel
    have Hs := Lib.hid hsz
    clear hsz
    by_cases hlt : r < n
    · have c2 : wr.cell? ⟨b, r, none⟩ = some (.int .i64 (F r)) := by simpa using hrow.cell hlt
      have c3 : wr.frozen? ⟨b, r, none⟩ = false := hrow.frozen r
      have R1 := (hrow.set r (.int .i64 (k + r))).congr (g := fun j => if j < r + 1 then .int .i64 (k + j) else .int .i64 (F j)) (fun j hj => by
        by_cases e : j = r
        · subst e; simp
        · by_cases e2 : j < r
          · simp [e, e2, Nat.lt_succ_of_lt e2]
          · have : ¬ j < r + 1 := by omega
            simp [e, e2, this])
      have R2 := hchg.setCell (p := ⟨b, r, none⟩) (Nat.le_refl _) (by show b < b + 1; omega) (.int .i64 (k + r))
      have R3 := Lib.hid (show (wr.setCell ⟨b, r, none⟩ (.int .i64 (k + r))).heap.size = w.heap.size by simpa [World.setCell] using Hs.out)
      clear h hchg hrow Hs
      go_wp2
      go_roundw
      case rel => exact ⟨r + 1, by omega, by go_num, by go_num, R1, R2, R3.out⟩
      case measure => simp [intOf]; omega
    · have e : r = n := by omega
      subst e
      have R1 := hrow.congr (g := fun i => .int .i64 (k + i)) (fun j hj => by simp [hj])
      clear hrow h
      go_wp2
      go_ret
      exact ⟨rfl, R1, hchg, Hs.out⟩

def MkPost (lo hi : Nat) (v : Value) (g : G) (k : Int) (w : World) (e : Ending) (w' : World) : Prop :=
  e = .returned (.int .i64 (k + g.off g.n)) ∧ OwM lo hi w' v (g.mark k) ∧ Chg lo hi w w' ∧ w'.heap.size = w.heap.size

/-- the rows below r are marked -/
def MkRows (w : World) (g : G) (Gb : Nat → Nat) (k : Int) (r : Nat) : Prop :=
  ∀ s, s < g.n → w.rowIs (Gb s) 3 (g.len s) (fun c => .int .i64 (if s < r then k + g.off s + c else g.z s c))

theorem MkRows.step {w w1 : World} {g : G} {Gb : Nat → Nat} {k : Int} {r : Nat} (h : MkRows w g Gb k r) (hr : r < g.n) (hinj : ∀ r s, r < g.n → s < g.n → Gb r = Gb s → r = s) (hlt : ∀ s, s < g.n → Gb s < w.heap.size)
    (hrow : w1.rowIs (Gb r) 3 (g.len r) (fun i => .int .i64 (k + g.off r + i))) (hc : Chg (Gb r) (Gb r + 1) w w1) : MkRows w1 g Gb k (r + 1) := by
  intro s hs
  by_cases e : s = r
  · subst e
    exact hrow.congr (fun i _ => by simp)
  · have hne : Gb s ≠ Gb r := fun e' => e (hinj s r hs hr e')
    refine ((h s hs).of_block (hc.block _ (hlt s hs) (by omega))).congr (fun i _ => ?_)
    by_cases e2 : s < r
    · simp [e2, Nat.lt_succ_of_lt e2]
    · have : ¬ s < r + 1 := by omega
      simp [e2, this]

set_option maxHeartbeats 1000000 in
theorem markIntSS_any (v : Value) (lo hi : Nat) (g : G) (k : Int) (w : World) (hv : OwM lo hi w v g) (h0 : 0 ≤ k) (h1 : k ≤ 1048576) (hn : g.n ≤ 1048576) (hl : ∀ r, r < g.n → g.len r ≤ 1048576) :
    Calls Try.prog 25 #[v, .int .i64 k] w (MkPost lo hi v g k w) := by
  rcases hv with ⟨rfl, hz⟩ | ⟨b, Gb, rfl, hn', hb1, hb2, htop, hrows, hinj⟩
  · have HZ := Lib.hid hz
    go_enter Try.func25, Try.ntmps25
    go_wp2
    clear hz
    refine wp_loop_rounds 1 ?_
    rw [rounds_succ]
    go_wp2
    go_ret
    exact ⟨by rw [HZ.out]; simp [G.off], Or.inl ⟨rfl, HZ.out⟩, Chg.refl _ _ _, rfl⟩
  · have HL := Lib.hid hl
    have HB := Lib.hid (g.off_le hl)
    clear hl
    have hltb : ∀ s, s < g.n → Gb s < w.heap.size := fun s hs => (hrows s hs).2.2.2.2.1.lt
    have HLT := Lib.hid hltb
    clear hltb
    have start : MkRows w g Gb k 0 := fun s hs => (hrows s hs).2.2.2.2.1.congr (fun c _ => by simp)
    have HR := Lib.hid hrows
    have HT := Lib.hid htop
    have HJ := Lib.hid hinj
    clear hrows htop hinj
    go_enter Try.func25, Try.ntmps25
    go_wp2
    go_loopw [1, 5] (fun x i wr => ∃ r : Nat, r ≤ g.n ∧ i = .int .i64 r ∧ x = .int .i64 (k + g.off r) ∧ MkRows wr g Gb k r ∧ wr.rowIs b 27 g.n (fun r => .slice (some ⟨Gb r, 0, none⟩) (g.len r) (g.len r)) ∧ Chg lo hi w wr ∧ wr.heap.size = w.heap.size)
      (fun _ i _ => g.n - (intOf i).toNat)
    case atStart => exact ⟨0, Nat.zero_le _, rfl, by simp [G.off], start, HT.out, Chg.refl _ _ _, rfl⟩
    case round =>
      obtain ⟨r, hr, rfl, rfl, hmk, htp, hchg, hsz⟩ := hrel
      have Hs := Lib.hid hsz
      clear hsz start
      have hoff := HB.out r hr
      by_cases hlt : r < g.n
      · have c2 := htp.cell hlt
        have hrow := hmk r hlt
        have hrow' := hrow.congr (g := fun c => .int .i64 (g.z r c)) (fun c _ => by simp)
        have hlen := HL.out r hlt
        have HRr := HR.out r hlt
        have hlo : lo ≤ Gb r := HRr.1
        have hhi : Gb r < hi := HRr.2.1
        have hneb : b ≠ Gb r := fun e => HRr.2.2.1 e.symm
        have Hneb := Lib.hid hneb
        have hbb := HRr.2.2.2.2.1
        clear HRr hbb hneb hrow
        go_wp2_with fail
        refine (markIntS_any (Gb r) (g.len r) (g.z r) (k + g.off r) _ hrow' (by omega) (by omega) hlen).mono ?_
        rintro e w1 ⟨rfl, q1, q2, q3⟩
        have Q3 := Lib.hid (show w1.heap.size = w.heap.size from q3.trans Hs.out)
        have S1 := hmk.step hlt HJ.out (fun s hs => by rw [Hs.out]; exact HLT.out s hs) q1 q2
        have S2 := htp.of_block (q2.block b htp.lt (by have := Hneb.out; omega))
        have S3 := hchg.trans (q2.mono hlo (by omega))
        clear q1 q2 q3 hmk htp hchg hrow' c2
        go_wp2
        go_roundw
        case rel => exact ⟨r + 1, by omega, by go_num, by simp only [G.off]; go_num, S1, S2, S3, Q3.out⟩
        case measure => simp [intOf]; omega
      · have e : r = g.n := by omega
        subst e
        go_wp2
        go_ret
        refine ⟨rfl, Or.inr ⟨b, Gb, rfl, hn', hb1, hb2, htp, fun r hr => ?_, HJ.out⟩, hchg, Hs.out⟩
        obtain ⟨a1, a2, a3, a4, a5, a6⟩ := HR.out r hr
        have hr' : r < g.n := hr
        refine ⟨a1, a2, a3, a4, (hmk r hr).congr (fun c _ => by simp [G.mark, hr']), fun c hc => ?_⟩
        have e1 := HB.out r (by omega)
        have e2 : g.len r ≤ 1048576 := HL.out r hr
        have e3 : c < g.len r := hc
        simp only [G.mark]
        omega

def HePost (q : Int) (w : World) (e : Ending) (w' : World) : Prop := e = .returned (.int .i64 q) ∧ w = w'

set_option maxHeartbeats 1000000 in
theorem heldIntS_any (v : Value) (lo hi n : Nat) (Z : Nat → Int) (q : Int) (w : World) (hv : RdI lo hi w v n Z) (hZ : ∀ i, i < n → Z i = q + i) (h0 : 0 ≤ q) (h1 : q ≤ 4398046511104) (hn : n ≤ 1048576) :
    Calls Try.prog 27 #[v, .int .i64 q] w (HePost (q + n) w) := by
  obtain ⟨ao, cap, b, off, rfl, a2, a3, a4, a5, a6⟩ := hv
  have HE := Lib.hid hZ
  clear hZ a4
  go_enter Try.func27, Try.ntmps27
  go_wp2
  go_loop [1, 5] (fun x i => ∃ k : Nat, k ≤ n ∧ i = .int .i64 k ∧ x = .int .i64 (q + k)) (fun _ i => n - (intOf i).toNat)
  case atStart => exact ⟨0, Nat.zero_le _, rfl, by go_num⟩
  case round =>
    obtain ⟨k, hk, rfl, rfl⟩ := hrel
    by_cases hlt : k < n
    · obtain ⟨rfl, _, _⟩ := a5 (by omega)
      have q1 := a6 k hlt
      rw [HE.out k hlt] at q1
      have hx : (q + k != q + k) = false := by simp
      clear a5 a6
      go_wp2
      go_round
      case rel => exact ⟨k + 1, by omega, by go_num, by go_num⟩
      case measure => simp [intOf]; omega
    · have e : k = n := by omega
      subst e
      clear a5 a6
      go_wp2
      go_ret
      exact ⟨rfl, rfl⟩

end Go.Proofs.Ytdjlobppnhokoaa
