/- Profiles copied and turned over in place, in the program. -/
import Derived.Test.YtmfdflkpbejpoaaPrI
import Derived.Test.YtmfdflkpbejpoaaPrQ
import Derived.Deep.AppendLies
import Derived.Deep.RegionLaw
import Derived.BigRegion
import Derived.BigQuiet
namespace Go.Proofs.Ytmfdflkpbejpoaa
open Go.RowKit
set_option linter.unusedVariables false

theorem OwI.congr {lo hi : Nat} {w : World} {v : Value} {n : Nat} {Z Z' : Nat → Int} (h : OwI lo hi w v n Z) (e : ∀ i, i < n → Z i = Z' i) : OwI lo hi w v n Z' := by
  rcases h with ⟨rfl, rfl⟩ | ⟨b, N, cap, F, rfl, h1, h2, h3, h4, h5, h6, h7, h8⟩
  · exact Or.inl ⟨rfl, rfl⟩
  · exact Or.inr ⟨b, N, cap, F, rfl, h1, h2, h3, h4, h5, h6, fun i hi => by rw [← e i hi]; exact h7 i hi, fun i hi => by rw [← e i hi]; exact h8 i hi⟩

theorem nums_all {B n : Nat} {w : World} {v : Value} {Z : Nat → Int} (h : w.ownsRow B 3 1 v (0 + n) ([] ++ nsV (fnL Z n))) : Nums B w v (fnL Z n) := by
  unfold Nums
  rw [fnL_len]
  rw [Nat.zero_add, List.nil_append] at h
  exact h

set_option maxHeartbeats 2000000 in
set_option maxRecDepth 20000 in
theorem clone_any (v : Value) (lo hi n : Nat) (Z : Nat → Int) (w : World) (hv : RdI lo hi w v n Z) (hok : PrOk n Z) (hh : hi ≤ w.heap.size) :
    Calls Try.prog 59 #[v] w (LgPost1 n Z w) := by
  obtain ⟨i0, hi0, hz0, hz1, hz2⟩ := info_parts Try.infoI
  have hn20 := hok.1.2
  obtain ⟨b, off, cap, rfl, hcap, _, hbh, hc⟩ := hv.open (by have := hok.1.1; omega)
  have HZ := Lib.hid hok.2
  have HB0 := Lib.hid ((Below.refl w.heap.size w).alloc (Nat.le_refl _) (.cells #[] 3))
  have HL0 := Lib.hid (nums_lit w)
  have HN := Lib.hid (show ∀ j u, (nsV (fnL Z n))[j]? = some u → (w.alloc (.cells #[] 3)).cell? ((⟨b, off, none⟩ : Addr).add j) = some u from fun j u hu => by
    have hj : j < n := by
      have := (List.getElem?_eq_some_iff.1 hu).1
      simpa [nsV, fnL_len] using this
    have e1 : (nsV (fnL Z n))[j]? = some (.int .i64 (Z j)) := by rw [nsV_at _ _ (by rw [fnL_len]; exact hj), fnL_z Z n j hj]
    rw [e1] at hu
    obtain rfl := Option.some.inj hu
    rw [add_none]
    exact (((Below.refl w.heap.size w).alloc (Nat.le_refl _) (.cells #[] 3)).cell (p := ⟨b, off + j, none⟩) (by show b < _; omega)).trans (hc j hj))
  have HW := Lib.hid (show ∀ u ∈ nsV (fnL Z n), u.oneCell' = true from fun u hu => by
    unfold nsV at hu
    obtain ⟨x, _, rfl⟩ := List.mem_map.1 hu
    rfl)
  have HLEN := Lib.hid (show (nsV (fnL Z n)).length = n * 1 by simp [nsV, fnL_len])
  have he : ∀ W : World, (binOp .eql 49 (.slice (some ⟨b, off, none⟩) n cap) (.slice none 0 0)).run Try.prog W = .ok (.bool false) W := fun _ => rfl
  clear hc hv hok
  go_enter Try.func59, Try.ntmps59
  go_wp2_with (first | (at_builtin; refine wpList_append_own _ rfl _ _ 49 rfl w.heap.size 3 i0 (.int .i64 0) 1 8 Try.underlying49 hi0 hz0 hz1 hz2 rfl (by decide) _ 0 [] rfl HL0.out ⟨b, off, none⟩ n cap (nsV (fnL Z n)) rfl HLEN.out HN.out HW.out (by unfold maxLen; omega) (by omega) (by simp) ?_; intro v' w4 hown4 hg4 _; have HG4 := Lib.hid hg4; have HO4 := Lib.hid hown4; clear hg4 hown4))
  have hg4 := HG4.out
  have hown4 := HO4.out
  have HB4 := Lib.hid (HB0.out.grown hg4 (by simp) (fun k hk => (HL0.out.lt k hk).1))
  have HL4 := Lib.hid (Nums.owI (nums_all hown4) (fnL_ok (fun i hi => by have := HZ.out i hi; omega)))
  have HS4 := Lib.hid (own_shape hown4)
  clear hown4 hg4
  go_wp2
  go_ret
  obtain ⟨a, c, e⟩ := HS4.out
  have HL5 := HL4.out
  rw [fnL_len] at HL5
  exact ⟨v', rfl, ⟨_, _, _, e⟩, (HL5.congr (fun i hi => fnL_z Z n i hi)), HB4.out⟩

/-- the first k from both ends are exchanged -/
def revF (F : Nat → Value) (Z : Nat → Int) (n k : Nat) (x : Nat) : Value := if x < n then (if x < k ∨ n ≤ x + k then .int .i64 (Z (n - 1 - x)) else .int .i64 (Z x)) else F x

def RevPost (b N n : Nat) (F : Nat → Value) (Z : Nat → Int) (w : World) (e : Ending) (w' : World) : Prop :=
  (∃ v, e = .returned v) ∧ w'.rowIs b 3 N (fun x => if x < n then .int .i64 (Z (n - 1 - x)) else F x) ∧ Chg b (b + 1) w w' ∧ w'.heap.size = w.heap.size

set_option maxHeartbeats 2000000 in
set_option maxRecDepth 20000 in
theorem reverse_any (b N n cap : Nat) (F : Nat → Value) (Z : Nat → Int) (w : World) (h : w.rowIs b 3 N F) (hF : ∀ i, i < n → F i = .int .i64 (Z i)) (hn : n ≤ N) (hn2 : n ≤ 100) (hcap : n ≤ cap) :
    Calls Try.prog 60 #[.slice (some ⟨b, 0, none⟩) n cap] w (RevPost b N n F Z w) := by
  have HF := Lib.hid hF
  have H := Lib.hid h
  clear hF h
  go_enter Try.func60, Try.ntmps60
  go_wp2
  go_loopw [2, 3] (fun i j wr => ∃ (k : Nat) (J : Int), k ≤ n ∧ J + 1 + k = n ∧ i = .int .i64 k ∧ j = .int .i64 J ∧ wr.rowIs b 3 N (revF F Z n k) ∧ Chg b (b + 1) w wr ∧ wr.heap.size = w.heap.size) (fun i _ _ => n - (intOf i).toNat)
  case atStart => exact ⟨0, (n : Int) - 1, Nat.zero_le _, by omega, rfl, rfl, H.out.congr (fun j hj => by
    unfold revF
    by_cases e : j < n
    · rw [if_pos e, if_neg (by omega)]; exact HF.out j e
    · rw [if_neg e]), Chg.refl _ _ _, rfl⟩
  case round =>
    obtain ⟨k, J, hk, hJ, rfl, rfl, hrow, hchg, hsz⟩ := hrel
    have HCH := Lib.hid hchg
    have HSZ := Lib.hid hsz
    have HJ := Lib.hid hJ
    clear hchg hsz
    by_cases hlt : (k : Int) < J
    · obtain ⟨q, rfl⟩ : ∃ q : Nat, J = q := ⟨J.toNat, by omega⟩
      have hq : q + 1 + k = n := by omega
      have hkq : k < q := by omega
      have HQ := Lib.hid hq
      have hkn : (k : Int) < n := by omega
      have hqn : (q : Int) < n := by omega
      have c1 : wr.cell? ⟨b, k, none⟩ = some (.int .i64 (Z k)) := by
        have := hrow.cell (i := k) (by omega)
        unfold revF at this
        rw [if_pos (by omega), if_neg (by omega)] at this
        exact this
      have c2 : wr.cell? ⟨b, q, none⟩ = some (.int .i64 (Z q)) := by
        have := hrow.cell (i := q) (by omega)
        unfold revF at this
        rw [if_pos (by omega), if_neg (by omega)] at this
        exact this
      have f1 : wr.frozen? ⟨b, k, none⟩ = false := hrow.frozen k
      have f2 : wr.frozen? ⟨b, q, none⟩ = false := hrow.frozen q
      have HR := Lib.hid (((hrow.set k (.int .i64 (Z q))).set q (.int .i64 (Z k))).congr (g := revF F Z n (k + 1)) (fun x hx => by
        have e1 : n - 1 - q = k := by omega
        have e2 : n - 1 - k = q := by omega
        unfold revF
        by_cases hxq : x = q
        · subst hxq
          rw [if_pos rfl, if_pos (by omega), if_pos (by omega), e1]
        · rw [if_neg hxq]
          by_cases hxk : x = k
          · subst hxk
            rw [if_pos rfl, if_pos (by omega), if_pos (by omega), e2]
          · rw [if_neg hxk]
            by_cases hxn : x < n
            · rw [if_pos hxn, if_pos hxn]
              by_cases hc : x < k ∨ n ≤ x + k
              · rw [if_pos hc, if_pos (by omega)]
              · rw [if_neg hc, if_neg (by omega)]
            · rw [if_neg hxn, if_neg hxn]))
      have HCC := Lib.hid (fun m : Nat => show Chg b (b + 1) w (((wr.drewN m).setCell ⟨b, k, none⟩ (.int .i64 (Z q))).setCell ⟨b, q, none⟩ (.int .i64 (Z k))) from by
        obtain ⟨a1, a2, a3, a4, a5⟩ := HCH.out
        exact (Chg.setCell (Chg.setCell (show Chg b (b + 1) w (wr.drewN m) from ⟨a1, a2, a3, a4, a5⟩) (p := ⟨b, k, none⟩) (Nat.le_refl _) (Nat.lt_succ_self _) _) (p := ⟨b, q, none⟩) (Nat.le_refl _) (Nat.lt_succ_self _) _))
      obtain ⟨zk, ezk⟩ : ∃ x, Z k = x := ⟨_, rfl⟩
      obtain ⟨zq, ezq⟩ : ∃ x, Z q = x := ⟨_, rfl⟩
      rw [ezk, ezq] at HR HCC
      rw [ezk] at c1
      rw [ezq] at c2
      clear hrow hJ ezk ezq hq
      go_wp2_with fail
      go_region
      go_wp2
      go_roundw
      case rel => exact ⟨k + 1, (q : Int) - 1, by omega, by have := HQ.out; omega, by go_num, by go_num, HR.out, HCC.out _, by simpa [World.setCell] using HSZ.out⟩
      case measure => simp [intOf]; omega
    · have HR := Lib.hid (hrow.congr (g := fun x => if x < n then .int .i64 (Z (n - 1 - x)) else F x) (fun x hx => by
        unfold revF
        by_cases hxn : x < n
        · rw [if_pos hxn, if_pos hxn]
          by_cases hc : x < k ∨ n ≤ x + k
          · rw [if_pos hc]
          · rw [if_neg hc]
            have : n - 1 - x = x := by omega
            rw [this]
        · rw [if_neg hxn, if_neg hxn]))
      clear hrow hJ
      go_wp2
      first | go_end0 | refine bodyPost_ret (results_none rfl _ _ _) rfl ?_
      exact ⟨⟨_, rfl⟩, HR.out, HCH.out, HSZ.out⟩

end Go.Proofs.Ytmfdflkpbejpoaa
