/- Pits and sinks; the most prominent peaks; a raised cell: what is reckoned, and the contracts. -/
import Derived.Test.YtcfeckpbjdipeaaPkX
import Derived.Test.YtcfeckpbjdipeaaPNearB
import Derived.Test.YtcfeckpbjdipeaaPNearM
import Derived.Test.YtcfeckpbjdipeaaPit
import Derived.Test.YtcfeckpbjdipeaaMsJ
import Derived.Test.YtcfeckpbjdipeaaImplG
import Derived.Deep.RegionHeld3
namespace Go.Proofs.Ytcfeckpbjdipeaa
open Go.RowKit
set_option linter.unusedVariables false

/-! Lists of cells as numbers. -/
structure LsFn {M : Nat} (l : List (Ix M)) (n : Nat) (x : Nat → Nat) : Prop where
  len : n = l.length
  at' : ∀ k (hk : k < n), ∃ h : x k < M, l[k]? = some ⟨x k, h⟩
  ix : ∀ k, k < n → ixZ l k = (x k : Int)
theorem lsFn_ex {M : Nat} (l : List (Ix M)) : ∃ n x, LsFn l n x := by
  refine ⟨_, fun k => ((l[k]?).map fun y => y.1).getD 0, rfl, fun k hk => ?_, fun k hk => ?_⟩
  · have e : l[k]? = some (l[k]) := List.getElem?_eq_getElem hk
    simp only [e, Option.map_some, Option.getD_some]
    exact ⟨(l[k]).2, trivial⟩
  · rw [ixZ_at _ hk]
    simp [List.getElem?_eq_getElem hk]
theorem LsFn.mem {M : Nat} {l : List (Ix M)} {n : Nat} {x : Nat → Nat} (h : LsFn l n x) {k : Nat} (hk : k < n) : ∃ hx : x k < M, (⟨x k, hx⟩ : Ix M) ∈ l := by
  obtain ⟨h1, h2⟩ := h.at' k hk
  exact ⟨h1, List.mem_of_getElem? h2⟩
theorem LsFn.lg {M : Nat} {l : List (Ix M)} {n : Nat} {x : Nat → Nat} (h : LsFn l n x) (hM : M ≤ 49) {w w' : World} {e : Ending} (k : LvPost l w e w') : LgPost1 n (fun j => (x j : Int)) w e w' := by
  obtain ⟨v', e1, e2, ow, hb⟩ := k.lg hM
  exact ⟨v', e1, e2, by rw [h.len]; exact owI_congrP ow (fun i hi => h.ix i (by rw [h.len]; exact hi)), hb⟩
theorem LsFn.ls {M : Nat} {l : List (Ix M)} {n : Nat} {x : Nat → Nat} (h : LsFn l n x) (hM : M ≤ 49) {w w' : World} {e : Ending} (k : LvPost l w e w') : LsPost1 n (fun j => (x j : Int)) w e w' := by
  obtain ⟨v', e1, e2, ow, hb⟩ := k.ls hM
  exact ⟨v', e1, e2, by rw [h.len]; exact ow.congr (fun i hi => h.ix i (by rw [h.len]; exact hi)), hb⟩
theorem LsFn.hasInt {M : Nat} {l : List (Ix M)} {n : Nat} {x : Nat → Nat} (h : LsFn l n x) (hM : M ≤ 49) (hn : n ≤ 49) (v : Value) (lo hi i : Nat) (hi49 : i ≤ 49) (w : World) (hr : RdI lo hi w v n (fun j => (x j : Int))) : Calls Try.prog 19 #[v, .int .i64 i] w (HasPost (l.any (fun y => y.1 == i)) w) :=
  hasInt_any v lo hi l i w (by rw [← h.len]; exact hr.congr (fun j hj => (h.ix j hj).symm)) hM (by rw [← h.len]; exact hn) hi49

theorem invert_flat (g : G) (i : Nat) : (invertG g).flat i = 99 - g.flat i := rfl
theorem pit_sink {g : G} {i : Ix (g.n * g.len 0)} (h : pkQ g.n (g.len 0) (invertG g).flat i = true) : nxt g.n (g.len 0) g.flat i = i := by
  rw [nxt_stays]
  rw [pkQ_iff] at h
  intro x hx hz
  have h1 := h x hx
  rw [hiB_niff, invert_flat, invert_flat] at h1
  omega
theorem sink_pit {g : G} {i : Ix (g.n * g.len 0)} (h : nxt g.n (g.len 0) g.flat i = i) (hne : ∀ x, x ∈ near g.n (g.len 0) i 4 → g.flat x.1 ≠ g.flat i.1) : pkQ g.n (g.len 0) (invertG g).flat i = true := by
  rw [nxt_stays] at h
  rw [pkQ_iff]
  intro x hx
  have h1 := h x hx
  have h2 := hne x hx
  rw [hiB_niff, invert_flat, invert_flat]
  omega
theorem sk_any {R C : Nat} {Z : Nat → Int} (i : Ix (R * C)) (h : nxt R C Z i = i) : (skL R C Z (R * C)).any (fun x => x.1 == i.1) = true := by
  rw [List.any_eq_true]
  exact ⟨i, skL_holds.2 ⟨i.2, h⟩, by simp⟩
theorem implSk_at (v : Value) (lo hi : Nat) (g : G) (w : World) (hv : RdM lo hi w v g) (hh : hi ≤ w.heap.size) (h : g.Valid) : Calls Try.prog 48 #[v] w (LvPost (skL g.n (g.len 0) g.flat (g.n * g.len 0)) w) := by
  have h1 := implWaterSinks_any v lo hi g w hv hh
  rw [G.skV_yes h] at h1
  exact h1
theorem implPit_at (v : Value) (lo hi : Nat) (g : G) (w : World) (hv : RdM lo hi w v g) (hh : hi ≤ w.heap.size) (h : g.Valid) : Calls Try.prog 46 #[v] w (LvPost (rkL g.n (g.len 0) (invertG g).flat (g.n * g.len 0)) w) := by
  have h1 := implPitList_yes v lo hi g w hv hh h
  rw [G.rkV_yes (invert_valid h)] at h1
  exact h1
theorem specPit_at (v : Value) (lo hi : Nat) (g : G) (w : World) (hv : RdM lo hi w v g) (hh : hi ≤ w.heap.size) (h : g.Valid) : Calls Try.prog 47 #[v] w (LvPost (rkL g.n (g.len 0) (invertG g).flat (g.n * g.len 0)) w) := by
  have h1 := specPitList_yes v lo hi g w hv hh h
  rw [G.rkV_yes (invert_valid h)] at h1
  exact h1
theorem implPit_none (v : Value) (lo hi : Nat) (g : G) (w : World) (hv : RdM lo hi w v g) (hh : hi ≤ w.heap.size) (h : ¬ g.Valid) : Calls Try.prog 46 #[v] w (LgPost1 0 (ixZ ([] : List (Ix 0))) w) :=
  (implPitList_no v lo hi g w hv hh h).mono fun _ _ k => k.lg (by omega)
theorem specPit_none (v : Value) (lo hi : Nat) (g : G) (w : World) (hv : RdM lo hi w v g) (hh : hi ≤ w.heap.size) (h : ¬ g.Valid) : Calls Try.prog 47 #[v] w (LsPost1 0 (ixZ ([] : List (Ix 0))) w) :=
  (specPitList_no v lo hi g w hv hh h).mono fun _ _ k => k.ls (by omega)
/-- whether the first m of some cells have another height -/
def alB {M : Nat} (Z : Nat → Int) (z : Int) (l : List (Ix M)) (m : Nat) : Bool := (l.take m).all fun x => Z x.1 != z
theorem alB_zero {M : Nat} (Z : Nat → Int) (z : Int) (l : List (Ix M)) : alB Z z l 0 = true := by simp [alB]
theorem alB_step {M : Nat} (Z : Nat → Int) (z : Int) (l : List (Ix M)) {m : Nat} (h : m < l.length) : alB Z z l (m + 1) = (alB Z z l m && (Z (l[m]).1 != z)) := by
  unfold alB
  rw [List.take_succ_eq_append_getElem h, List.all_append]
  simp
theorem alB_all {M : Nat} {Z : Nat → Int} {z : Int} {l : List (Ix M)} (h : alB Z z l l.length = true) : ∀ x, x ∈ l → Z x.1 ≠ z := by
  unfold alB at h
  rw [List.take_length, List.all_eq_true] at h
  intro x hx
  have := h x hx
  simpa using this
theorem _root_.Go.Calls.quiet_htP {P : Program} {f : FuncId} {args : Array Value} {w : World} {n : Nat} {z : Int}
    (h : Calls P f args (w.drewN n) (HtPost z (w.drewN n))) : Calls P f args (w.drewN n) fun e w'' => e = .returned (.int .i64 z) ∧ ∃ m, w'' = w.drewN m :=
  h.mono fun _ _ ⟨he, m, hm⟩ => ⟨he, n + m, by rw [hm, World.drewN_drewN]⟩
theorem updP_flat {g : G} {r c : Nat} (hr : r < g.n) (hc : c < g.len 0) (x : Int) (i : Nat) : (g.upd r c x).flat i = if i = r * g.len 0 + c then x else g.flat i := by
  show (if i / g.len 0 = r ∧ i % g.len 0 = c then x else g.z (i / g.len 0) (i % g.len 0)) = _
  by_cases e : i = r * g.len 0 + c
  · have := div_at r c (g.len 0) hc
    rw [if_pos e, e, if_pos ⟨this.1, this.2⟩]
  · rw [if_neg e, if_neg (fun h => e (by
      have := Nat.div_add_mod i (g.len 0)
      rw [h.1, h.2, Nat.mul_comm] at this
      exact this.symm))]
    rfl
theorem updP_valid {g : G} {r c : Nat} {x : Int} (h : g.Valid) (hx : 0 ≤ x ∧ x ≤ 99) : (g.upd r c x).Valid := ⟨h.1, h.2.1, fun i hi => ⟨(h.2.2 i hi).1, fun j hj => by
  show 0 ≤ (if i = r ∧ j = c then x else g.z i j) ∧ (if i = r ∧ j = c then x else g.z i j) ≤ 99
  split
  · exact hx
  · exact (h.2.2 i hi).2 j hj⟩⟩
theorem implPkIs_no (v : Value) (lo hi : Nat) (g : G) (i : Int) (w : World) (hv : RdM lo hi w v g) (hh : hi ≤ w.heap.size) (h : g.pkB i = false) : Calls Try.prog 13 #[v, .int .i64 i] w (BlPost false w) := by
  rw [← h]; exact implPeakIs_any v lo hi g i w hv hh
theorem specPkIs_no (v : Value) (lo hi : Nat) (g : G) (i : Int) (w : World) (hv : RdM lo hi w v g) (hh : hi ≤ w.heap.size) (h : g.pkB i = false) : Calls Try.prog 14 #[v, .int .i64 i] w (BlPost false w) := by
  rw [← h]; exact specPeakIs_any v lo hi g i w hv hh
theorem implPkIs_yes (v : Value) (lo hi : Nat) (g : G) (i : Int) (w : World) (hv : RdM lo hi w v g) (hh : hi ≤ w.heap.size) (h : g.pkB i = true) : Calls Try.prog 13 #[v, .int .i64 i] w (BlPost true w) := by
  rw [← h]; exact implPeakIs_any v lo hi g i w hv hh
theorem specPkIs_yes (v : Value) (lo hi : Nat) (g : G) (i : Int) (w : World) (hv : RdM lo hi w v g) (hh : hi ≤ w.heap.size) (h : g.pkB i = true) : Calls Try.prog 14 #[v, .int .i64 i] w (BlPost true w) := by
  rw [← h]; exact specPeakIs_any v lo hi g i w hv hh
/-- a raised peak is a peak -/
theorem pk_raised {g : G} (h : g.Valid) (i : Ix (g.n * g.len 0)) (hp : pkQ g.n (g.len 0) g.flat i = true) (hz : g.flat i.1 + 1 ≤ 99) : (g.upd (i.1 / g.len 0) (i.1 % g.len 0) (g.flat i.1 + 1)).pkB (i.1 : Int) = true := by
  have hl : 0 < g.len 0 := h.2.1.1
  have hr : i.1 / g.len 0 < g.n := by
    rw [Nat.div_lt_iff_lt_mul hl]; exact i.2
  have hc : i.1 % g.len 0 < g.len 0 := Nat.mod_lt _ hl
  have hz0 := flat_okW h i.2
  have hv := updP_valid (r := i.1 / g.len 0) (c := i.1 % g.len 0) (x := g.flat i.1 + 1) h (by omega)
  have hi : i.1 / g.len 0 * g.len 0 + i.1 % g.len 0 = i.1 := by rw [Nat.mul_comm]; exact Nat.div_add_mod _ _
  have hf := updP_flat hr hc (g.flat i.1 + 1)
  rw [hi] at hf
  have := G.pkB_yes (g := g.upd (i.1 / g.len 0) (i.1 % g.len 0) (g.flat i.1 + 1)) (i := (i : Ix ((g.upd (i.1 / g.len 0) (i.1 % g.len 0) (g.flat i.1 + 1)).n * (g.upd (i.1 / g.len 0) (i.1 % g.len 0) (g.flat i.1 + 1)).len 0))) hv
  rw [this]
  exact peak_up (Z := g.flat) i (by rw [hf, if_pos rfl]) (fun x hx hne => by rw [hf, if_neg hne]) hp
theorem peak_over {R C : Nat} {Z : Nat → Int} {i x : Ix (R * C)} (h : pkQ R C Z i = true) (hx : x ∈ near R C i 4) : hiB Z i.1 x.1 = true := by
  rw [pkQ_iff] at h
  have h1 := h x hx
  have h2 := near_ne hx
  rw [hiB_niff] at h1
  rw [hiB_iff]
  omega
theorem nearL_any (v : Value) (lo hi : Nat) (g : G) (i : Nat) (hi' : i < g.n * g.len 0) (n : Nat) (x : Nat → Nat) (hx : LsFn (near g.n (g.len 0) ⟨i, hi'⟩ 4) n x) (w : World) (hv : RdM lo hi w v g) (hh : hi ≤ w.heap.size) (h : g.Valid) : Calls Try.prog 15 #[v, .int .i64 i] w (LsPost1 n (fun j => (x j : Int)) w) :=
  (nearOf_any v lo hi g g.n (g.len 0) rfl rfl ⟨i, hi'⟩ w hv hh h).mono fun e w' ⟨v', e1, ⟨a, c, e2⟩, e3, hb⟩ => ⟨v', e1, ⟨a, _, c, e2⟩, by rw [hx.len]; exact e3.congr (fun j hj => hx.ix j (by rw [hx.len]; exact hj)), hb⟩
end Go.Proofs.Ytcfeckpbjdipeaa
