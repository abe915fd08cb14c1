/- Two thinned lines joined, in the program. -/
import Derived.Test.YtjepmnngphlgoaaThD
import Derived.StillTailTactics
namespace Go.Proofs.Ytjepmnngphlgoaa
open Go.RowKit
set_option linter.unusedVariables false

set_option maxHeartbeats 4000000 in
set_option maxRecDepth 20000 in
theorem last_any (v : Value) (l : List Int) (x : Int) (lo hi : Nat) (w : World) (hk : Kn lo w hi v (l ++ [x])) (hl : l.length ≤ 100) :
    Calls Try.prog 67 #[v] w (fun e w' => ∃ b, e = .returned (.pointer (some ⟨b, 0, none⟩)) ∧ w' = w ∧ lo ≤ b ∧ b < hi ∧ PreU w (b + 1) hi v l (.pointer (some ⟨b, 0, none⟩)) ∧ w.heap[b]? = some (.cells #[.int .i64 x, .pointer none] 57 (0, 0))) := by
  have hlen : (l ++ [x]).length = l.length + 1 := by simp
  have HDR := Lib.hid (fun (t : Nat) (ht : t < (l ++ [x]).length) => drop_at (l ++ [x]) t ht)
  have HTK := Lib.hid (fun (t : Nat) (ht : t < (l ++ [x]).length) => take_snoc (l ++ [x]) t ht)
  have HK := Lib.hid hk
  have HE := Lib.hid (show (l ++ [x]).take l.length = l from by simp)
  have HX := Lib.hid (show nsZ (l ++ [x]) l.length = x from by simp [nsZ, List.getD_eq_getElem?_getD])
  have HNI := Lib.hid (show (l ++ [x]).drop (l.length + 1) = [] from List.drop_eq_nil_of_le (by simp))
  obtain ⟨q, rfl⟩ := hk.ptr
  obtain ⟨M, eM⟩ : ∃ M, l ++ [x] = M := ⟨_, rfl⟩
  rw [eM] at hlen HDR HTK HK HE HX HNI
  have HLE := Lib.hid hlen
  clear hk eM hlen
  go_enter Try.func67, Try.ntmps67
  go_wp2
  go_loopg [0] (M.length) (fun gk c wr => ∃ (t hi' : Nat) (u : Value), t + 1 ≤ M.length ∧ gk = M.length - t ∧ u = c ∧ hi' ≤ hi ∧ PreU w hi' hi (.pointer q) (M.take t) u ∧ Kn lo w hi' u (M.drop t) ∧ wr = w)
  case atStart => exact ⟨0, hi, _, by have := HLE.out; omega, by omega, rfl, Nat.le_refl _, rfl, by rw [List.drop_zero]; exact HK.out, rfl⟩
  case round =>
    obtain ⟨t, hi', u, ht, rfl, rfl, hhi, hpre, hkn, rfl⟩ := hrel
    rw [HDR.out t (by omega)] at hkn
    obtain ⟨b, u1, rfl, hb1, hb2, hb3, hkn⟩ := hkn
    obtain ⟨d1, d2, f1, f2⟩ := cells2e hb3
    have HPRE := Lib.hid hpre
    have HKN := Lib.hid hkn
    have HB3 := Lib.hid hb3
    by_cases hlt : t + 1 < M.length
    · have hs : ∃ q1, u1 = .pointer (some q1) := by
        rw [HDR.out (t + 1) hlt] at hkn
        obtain ⟨c, u2, h1, _⟩ := hkn
        exact ⟨_, h1⟩
      obtain ⟨q1, rfl⟩ := hs
      have HS := Lib.hid (HTK.out t (by omega))
      clear hkn hb3 hpre
      go_wp2
      go_roundg (M.length - (t + 1))
      case measure => omega
      case rel => exact ⟨t + 1, b, _, by omega, rfl, rfl, by omega, by rw [HS.out]; exact PreU.snoc _ (PreU.down _ HPRE.out (Nat.le_of_lt hb2)) (Nat.le_refl _) (by omega) HB3.out, HKN.out, rfl⟩
    · have et : t = l.length := by have := HLE.out; omega
      have hnil : u1 = .pointer none := by
        rw [et, HNI.out] at hkn; exact hkn
      subst hnil
      have HFX := Lib.hid (show wr.heap[b]? = some (.cells #[.int .i64 x, .pointer none] 57 (0, 0)) by rw [← HX.out, ← et]; exact hb3)
      have HFP := Lib.hid (show PreU wr (b + 1) hi (.pointer q) l (.pointer (some ⟨b, 0, none⟩)) by
        have := HPRE.out
        rw [et, HE.out] at this
        exact PreU.down _ this hb2)
      clear hkn hb3 hpre et d1 f1
      go_wp2
      go_ret
      exact ⟨b, rfl, rfl, hb1, by omega, HFP.out, HFX.out⟩

def JoPost (v : Value) (l : List Int) (lo : Nat) (w : World) (e : Ending) (w' : World) : Prop := (∃ r, e = .returned r) ∧ Ch w' v l ∧ Below lo w w'

set_option maxHeartbeats 4000000 in
set_option maxRecDepth 20000 in
theorem join_any (v u : Value) (L : List Int) (x y0 : Int) (R : List Int) (lo mid hi : Nat) (w : World) (hk : Kn lo w mid v (L ++ [x])) (hr : Kn mid w hi u (y0 :: R)) (hlo : lo ≤ w.heap.size) (hlm : lo ≤ mid) (hL : L.length ≤ 100) (hR : R.length ≤ 100)
    (hx : 0 ≤ x ∧ x ≤ 100) (hy : ∀ i, i < R.length → 0 ≤ nsZ R i ∧ nsZ R i ≤ 100) :
    Calls Try.prog 59 #[v, u] w (JoPost v (L ++ x :: R.map (· + x)) lo w) := by
  have HLA := Lib.hid (last_any v L x lo mid w hk hL)
  have HDR := Lib.hid (fun (t : Nat) (ht : t < R.length) => drop_at R t ht)
  have HTK := Lib.hid (fun (t : Nat) (ht : t < R.length) => (show (R.map (· + x)).take (t + 1) = (R.map (· + x)).take t ++ [nsZ R t + x] from by
    rw [take_snoc _ t (by simpa using ht)]
    congr 2
    simp [nsZ, List.getD_eq_getElem?_getD, List.getElem?_eq_getElem ht]))
  have HTE := Lib.hid (show (R.map (· + x)).take R.length = R.map (· + x) from List.take_of_length_le (by simp))
  have HDE := Lib.hid (show R.drop R.length = [] from List.drop_eq_nil_of_le (Nat.le_refl _))
  have HY := Lib.hid hy
  obtain ⟨hx1, hx2⟩ := hx
  obtain ⟨q, rfl⟩ := hk.ptr
  obtain ⟨c0, u1, rfl, hc1, hc2, hc3, hrest⟩ := hr
  obtain ⟨e1, e2, _, _⟩ := cells2e hc3
  obtain ⟨q1, rfl⟩ := hrest.ptr
  have HREST := Lib.hid hrest
  have HC3 := Lib.hid hc3
  clear hk hrest hy hc3
  go_enter Try.func59, Try.ntmps59
  go_wp2_with fail
  refine HLA.out.mono ?_
  rintro e w1 ⟨b, rfl, rfl, hb1, hb2, hpre, hbx⟩
  obtain ⟨g1, g2, g3, g4⟩ := cells2e hbx
  have hbc : b ≠ c0 := by omega
  have e2' : (w1.setCell ⟨b, 1, none⟩ (.pointer q1)).cell? ⟨c0, 1, none⟩ = some (.pointer q1) := (World.cell?_of_block (a := ⟨c0, 1, none⟩) (Below.heap_setCell w1 ⟨b, 1, none⟩ (.pointer q1) c0 (by simpa using fun h => hbc h.symm))).trans e2
  have HS1 := Lib.hid (fun (k : Nat) (hk : k ≠ b) => Below.heap_setCell w1 ⟨b, 1, none⟩ (.pointer q1) k (by simpa using hk))
  have HBX := Lib.hid (two_set1 hbx (.pointer q1))
  have HPRE := Lib.hid hpre
  have HBB := Lib.hid ((Below.refl lo w1).setCell (p := ⟨b, 1, none⟩) hb1 (.pointer q1))
  have HRK := Lib.hid (Kn.keep _ HREST.out (fun k h1 h2 c t hc => (Below.heap_setCell w1 ⟨b, 1, none⟩ (.pointer q1) k (by simpa using (by omega : k ≠ b))).trans hc))
  clear hbx hpre
  go_wp2
  have hsz : (w1.setCell ⟨b, 1, none⟩ (.pointer q1)).heap.size = w1.heap.size := by simp [World.setCell]
  have HSZ := Lib.hid hsz
  clear hsz e2'
  obtain ⟨V, hV⟩ : ∃ V, w1.setCell ⟨b, 1, none⟩ (.pointer q1) = V := ⟨_, rfl⟩
  rw [hV] at HS1 HBX HBB HRK HSZ ⊢
  clear hV
  go_loopg [5] (R.length) (fun gk c wr => ∃ (t hi' : Nat) (u : Value), t ≤ R.length ∧ gk = R.length - t ∧ u = c ∧ Pre wr hi' (.pointer q1) ((R.map (· + x)).take t) u ∧ Kn mid wr hi' u (R.drop t) ∧ (∀ k, k < mid → wr.heap[k]? = V.heap[k]?) ∧ Below lo w1 wr)
  case atStart => exact ⟨0, c0, _, Nat.zero_le _, by omega, rfl, rfl, by rw [List.drop_zero]; exact HRK.out, fun _ _ => rfl, HBB.out⟩
  case round =>
    obtain ⟨t, hi', u, ht, rfl, rfl, hpre, hkn, hlow, hbe⟩ := hrel
    by_cases hlt : t < R.length
    · rw [HDR.out t hlt] at hkn
      obtain ⟨c, u2, rfl, hk1, hk2, hk3, hkn⟩ := hkn
      obtain ⟨d1, d2, f1, f2⟩ := cells2e hk3
      have hbV := (hlow b hb2).trans HBX.out
      obtain ⟨p1, p2, _, _⟩ := cells2e hbV
      obtain ⟨hy1, hy2⟩ := HY.out t hlt
      obtain ⟨q2, rfl⟩ := hkn.ptr
      have HS := Lib.hid (HTK.out t hlt)
      obtain ⟨y, ey⟩ : ∃ y, nsZ R t = y := ⟨_, rfl⟩
      rw [ey] at d1 hk3 hy1 hy2 HS
      have hbc2 : b ≠ c := by omega
      have hset : ∀ k, k ≠ c → (wr.drew.setCell ⟨c, 0, none⟩ (.int .i64 (y + x))).heap[k]? = wr.heap[k]? := fun k hk => Below.heap_setCell wr.drew _ _ _ (by simpa using hk)
      have hcn := two_set0 (w := wr.drew) hk3 (.int .i64 (y + x))
      have HP2 := Lib.hid (show Pre (wr.drew.setCell ⟨c, 0, none⟩ (.int .i64 (y + x))) c (.pointer q1) ((R.map (· + x)).take (t + 1)) (.pointer q2) by
        rw [HS.out]
        refine Pre.snoc _ ?_ (Nat.le_refl _) hcn
        exact Pre.keepB _ hpre (Nat.le_of_lt hk2) (fun k hk => hset k (by omega)))
      have HK2 := Lib.hid (Kn.keep (w' := wr.drew.setCell ⟨c, 0, none⟩ (.int .i64 (y + x))) _ hkn (fun k h1 h2 c' t' hc' => (hset k (by omega)).trans hc'))
      have HLOW := Lib.hid (fun (k : Nat) (hk : k < mid) => (hset k (by omega)).trans (hlow k hk))
      have HBE := Lib.hid ((below_drewN hbe 1).setCell (p := ⟨c, 0, none⟩) (by show lo ≤ c; omega) (.int .i64 (y + x)))
      have n1 : (wr.drew.setCell ⟨c, 0, none⟩ (.int .i64 (y + x))).cell? ⟨c, 1, none⟩ = some (.pointer q2) := (cells2e hcn).2.1
      have hw : IntKind.i64.wrap (y + x) = y + x := IntWalk.i64_in _ (by omega)
      clear hpre hkn hlow hbe hk3 hbV hset hcn ey
      go_wp2_with fail
      go_still_tail 11, (by kernel_rfl)
      change wpList _ _ _ _ _ wr.drew
      go_wp2
      go_roundg (R.length - (t + 1))
      case measure => omega
      case rel => exact ⟨t + 1, c, _, by omega, rfl, rfl, HP2.out, HK2.out, HLOW.out, HBE.out⟩
    · have et : t = R.length := by omega
      have hnil : u = .pointer none := by rw [et, HDE.out] at hkn; exact hkn
      subst hnil
      have HFIN := Lib.hid (show Ch wr (.pointer q) (L ++ x :: R.map (· + x)) by
        refine PreU.ch (w := w1) _ HPRE.out (fun k hk hk2 => (hlow k hk2).trans (HS1.out k (by omega))) ⟨b, _, rfl, (hlow b hb2).trans HBX.out, ?_⟩
        have h9 := hpre
        rw [et, HTE.out] at h9
        have := Pre.ch (w := wr) (w' := wr) (R := []) _ h9 (fun _ _ _ _ h => h) rfl
        simpa using this)
      have HB9 := Lib.hid hbe
      clear hpre hkn hlow hbe et
      go_wp2
      first | go_end0 | refine bodyPost_ret (results_none rfl _ _ _) rfl ?_
      exact ⟨⟨_, rfl⟩, HFIN.out, HB9.out⟩

end Go.Proofs.Ytjepmnngphlgoaa
