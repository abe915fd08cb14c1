/- Owned lists of numbers: marked, held, answered. -/
import Derived.Test.YtdjlobppnhokoaaLawV
namespace Go.Proofs.Ytdjlobppnhokoaa
open Go.RowKit
set_option linter.unusedVariables false

/-- a list of numbers in a block of its own -/
def OwI (lo hi : Nat) (w : World) (v : Value) (n : Nat) (Z : Nat → Int) : Prop :=
  (v = .slice none 0 0 ∧ n = 0) ∨ ∃ (b N cap : Nat) (F : Nat → Value), v = .slice (some ⟨b, 0, none⟩) n cap ∧ lo ≤ b ∧ b < hi ∧ w.rowIs b 3 N F ∧ n ≤ N ∧ n ≤ cap ∧ cap ≤ 9223372036854775807 ∧ (∀ i, i < n → F i = .int .i64 (Z i)) ∧
    ∀ i, i < n → -9223372036854775808 ≤ Z i ∧ Z i ≤ 9223372036854775807

theorem OwI.rd {lo hi : Nat} {w : World} {v : Value} {n : Nat} {Z : Nat → Int} (h : OwI lo hi w v n Z) : RdI lo hi w v n Z := by
  rcases h with ⟨rfl, rfl⟩ | ⟨b, N, cap, F, rfl, h1, h2, h3, h4, h5, h6, h7, h8⟩
  · exact ⟨none, 0, 0, 0, rfl, by omega, by omega, fun i hi => by omega, fun h => by omega, fun i hi => by omega⟩
  · exact ⟨_, cap, b, 0, rfl, h5, h6, h8, fun _ => ⟨rfl, h1, h2⟩, fun i hi => by rw [Nat.zero_add, h3.cell (by omega), h7 i hi]⟩

theorem OwI.same {lo hi : Nat} {w w' : World} {v : Value} {n : Nat} {Z : Nat → Int} (h : OwI lo hi w v n Z) (hs : SameIn lo hi w w') : OwI lo hi w' v n Z := by
  rcases h with h | ⟨b, N, cap, F, h0, h1, h2, h3, h4⟩
  · exact Or.inl h
  · exact Or.inr ⟨b, N, cap, F, h0, h1, h2, h3.of_block (hs b h1 h2), h4⟩

theorem OwI.none (lo hi : Nat) (w : World) (Z : Nat → Int) : OwI lo hi w (.slice none 0 0) 0 Z := Or.inl ⟨rfl, rfl⟩

def MkLPost (lo hi : Nat) (v : Value) (n : Nat) (k : Int) (w : World) (e : Ending) (w' : World) : Prop :=
  e = .returned (.int .i64 (k + n)) ∧ OwI lo hi w' v n (fun i => k + i) ∧ Chg lo hi w w' ∧ w'.heap.size = w.heap.size

set_option maxHeartbeats 1000000 in
theorem markL_any (v : Value) (lo hi n : Nat) (Z : Nat → Int) (k : Int) (w : World) (hv : OwI lo hi w v n Z) (h0 : 0 ≤ k) (h1 : k ≤ 4398046511104) (hn : n ≤ 1048576) :
    Calls Try.prog 26 #[v, .int .i64 k] w (MkLPost lo hi v n k w) := by
  rcases hv with ⟨rfl, rfl⟩ | ⟨b, N, cap, F, rfl, hb1, hb2, h, hN, hc, hcap, hF, hZ⟩
  · go_enter Try.func26, Try.ntmps26
    go_wp2
    refine wp_loop_rounds 1 ?_
    rw [rounds_succ]
    go_wp2
    go_ret
    exact ⟨by simp, OwI.none _ _ _ _, Chg.refl _ _ _, rfl⟩
  · have HF := Lib.hid hF
    clear hF hZ
    go_enter Try.func26, Try.ntmps26
    go_wp2
    go_loopw [1, 5] (fun x i wr => ∃ r : Nat, r ≤ n ∧ i = .int .i64 r ∧ x = .int .i64 (k + r) ∧ wr.rowIs b 3 N (fun j => if j < r then .int .i64 (k + j) else F j) ∧ Chg lo hi w wr ∧ wr.heap.size = w.heap.size)
      (fun _ i _ => n - (intOf i).toNat)
    case atStart => exact ⟨0, Nat.zero_le _, rfl, by go_num, h.congr (fun j _ => by simp), Chg.refl _ _ _, rfl⟩
    case round =>
      obtain ⟨r, hr, rfl, rfl, hrow, hchg, hsz⟩ := hrel
      have Hs := Lib.hid hsz
      clear hsz
      by_cases hlt : r < n
      · have c2 : wr.cell? ⟨b, r, none⟩ = some (F r) := by simpa using hrow.cell (i := r) (by omega)
        rw [HF.out r hlt] at c2
        have c3 : wr.frozen? ⟨b, r, none⟩ = false := hrow.frozen r
        have R1 := Lib.hid ((hrow.set r (.int .i64 (k + r))).congr (g := fun j => if j < r + 1 then .int .i64 (k + j) else F j) (fun j hj => by
          by_cases e : j = r
          · subst e; simp
          · by_cases e2 : j < r
            · simp [e, e2, Nat.lt_succ_of_lt e2]
            · have : ¬ j < r + 1 := by omega
              simp [e, e2, this]))
        have R2 := Lib.hid (hchg.setCell (p := ⟨b, r, none⟩) hb1 hb2 (.int .i64 (k + r)))
        have R3 := Lib.hid (show (wr.setCell ⟨b, r, none⟩ (.int .i64 (k + r))).heap.size = w.heap.size by simpa [World.setCell] using Hs.out)
        clear h hchg hrow Hs
        go_wp2
        go_roundw
        case rel => exact ⟨r + 1, by omega, by go_num, by go_num, R1.out, R2.out, R3.out⟩
        case measure => simp [intOf]; omega
      · have e : r = n := by omega
        subst e
        have R1 := Lib.hid hrow
        clear hrow h
        go_wp2
        go_ret
        exact ⟨rfl, Or.inr ⟨b, N, cap, _, rfl, hb1, hb2, R1.out, hN, hc, hcap, fun i hi => by simp [hi], fun i hi => by show -9223372036854775808 ≤ k + (i : Int) ∧ k + (i : Int) ≤ 9223372036854775807; omega⟩, hchg, Hs.out⟩

theorem heldL_any (v : Value) (lo hi n : Nat) (w : World) (hv : OwI lo hi w v n (fun i => 1 + i)) (hn : n ≤ 1048576) :
    Calls Try.prog 27 #[v, .int .i64 1] w (HePost (1 + n) w) :=
  heldIntS_any v lo hi n _ 1 w hv.rd (fun i _ => rfl) (by omega) (by omega) hn

/-- a list and a bool to read, and one of its own -/
def LsPost (b : Bool) (n : Nat) (Z : Nat → Int) (w : World) (e : Ending) (w' : World) : Prop :=
  ∃ v, e = .returned (.tuple #[v, .bool b]) ∧ (∃ a l c, v = .slice a l c) ∧ RdI w.heap.size w'.heap.size w' v n Z ∧ Below w.heap.size w w'
def LgPost (b : Bool) (n : Nat) (Z : Nat → Int) (w : World) (e : Ending) (w' : World) : Prop :=
  ∃ v, e = .returned (.tuple #[v, .bool b]) ∧ (∃ a l c, v = .slice a l c) ∧ OwI w.heap.size w'.heap.size w' v n Z ∧ Below w.heap.size w w'
/-- the same without a bool -/
def LsPost1 (n : Nat) (Z : Nat → Int) (w : World) (e : Ending) (w' : World) : Prop :=
  ∃ v, e = .returned v ∧ (∃ a l c, v = .slice a l c) ∧ RdI w.heap.size w'.heap.size w' v n Z ∧ Below w.heap.size w w'
def LgPost1 (n : Nat) (Z : Nat → Int) (w : World) (e : Ending) (w' : World) : Prop :=
  ∃ v, e = .returned v ∧ (∃ a l c, v = .slice a l c) ∧ OwI w.heap.size w'.heap.size w' v n Z ∧ Below w.heap.size w w'

end Go.Proofs.Ytdjlobppnhokoaa
