/- A point of a thinned line dropped, in the program. -/
import Derived.Test.YtmfdflkpbejpoaaThL
namespace Go.Proofs.Ytmfdflkpbejpoaa
open Go.RowKit
set_option linter.unusedVariables false

/-- from v on, the knots of the list l lie in blocks from lo on, and lead to p -/
def Pre (w : World) (lo : Nat) : Value → List Int → Value → Prop
  | v, [], p => v = p
  | v, x :: l, p => ∃ (c : Nat) (u : Value), v = .pointer (some ⟨c, 0, none⟩) ∧ lo ≤ c ∧ w.heap[c]? = some (.cells #[.int .i64 x, u] 76 (0, 0)) ∧ Pre w lo u l p
theorem Pre.down {w : World} {lo lo' : Nat} : ∀ (l : List Int) {v p : Value}, Pre w lo v l p → lo' ≤ lo → Pre w lo' v l p
  | [], _, _, h, _ => h
  | _ :: l, _, _, ⟨c, u, h1, h2, h3, h4⟩, hl => ⟨c, u, h1, Nat.le_trans hl h2, h3, Pre.down l h4 hl⟩
theorem Pre.snoc {w : World} {lo : Nat} {x : Int} {b : Nat} {u : Value} : ∀ (l : List Int) {v : Value}, Pre w lo v l (.pointer (some ⟨b, 0, none⟩)) → lo ≤ b → w.heap[b]? = some (.cells #[.int .i64 x, u] 76 (0, 0)) → Pre w lo v (l ++ [x]) u
  | [], _, h, hb, hx => ⟨b, u, h, hb, hx, rfl⟩
  | _ :: l, _, ⟨c, u', h1, h2, h3, h4⟩, hb, hx => ⟨c, u', h1, h2, h3, Pre.snoc l h4 hb hx⟩
theorem Pre.ch {w w' : World} {lo : Nat} {R : List Int} : ∀ (l : List Int) {v p : Value}, Pre w lo v l p → (∀ (k : Nat), lo ≤ k → ∀ c t, w.heap[k]? = some (Obj.cells c t (0, 0)) → w'.heap[k]? = some (Obj.cells c t (0, 0))) → Ch w' p R → Ch w' v (l ++ R)
  | [], v, p, h, _, hr => by
    have h : v = p := h
    subst h
    exact hr
  | _ :: l, _, _, ⟨c, u, h1, h2, h3, h4⟩, hk, hr => ⟨c, u, h1, hk c h2 _ _ h3, Pre.ch l h4 hk hr⟩

theorem Pre.keepB {w w' : World} {lo lo' : Nat} : ∀ (l : List Int) {v p : Value}, Pre w lo v l p → lo' ≤ lo → (∀ (k : Nat), lo ≤ k → w'.heap[k]? = w.heap[k]?) → Pre w' lo' v l p
  | [], _, _, h, _, _ => h
  | _ :: l, _, _, ⟨c, u, h1, h2, h3, h4⟩, hl, hk => ⟨c, u, h1, Nat.le_trans hl h2, (hk c h2).trans h3, Pre.keepB l h4 hl hk⟩
/-- the same with a mark above -/
def PreU (w : World) (lo hi : Nat) : Value → List Int → Value → Prop
  | v, [], p => v = p
  | v, x :: l, p => ∃ (c : Nat) (u : Value), v = .pointer (some ⟨c, 0, none⟩) ∧ lo ≤ c ∧ c < hi ∧ w.heap[c]? = some (.cells #[.int .i64 x, u] 76 (0, 0)) ∧ PreU w lo hi u l p
theorem PreU.pre {w : World} {lo hi : Nat} : ∀ (l : List Int) {v p : Value}, PreU w lo hi v l p → Pre w lo v l p
  | [], _, _, h => h
  | _ :: l, _, _, ⟨c, u, h1, h2, _, h3, h4⟩ => ⟨c, u, h1, h2, h3, PreU.pre l h4⟩
theorem PreU.down {w : World} {lo lo' hi : Nat} : ∀ (l : List Int) {v p : Value}, PreU w lo hi v l p → lo' ≤ lo → PreU w lo' hi v l p
  | [], _, _, h, _ => h
  | _ :: l, _, _, ⟨c, u, h1, h2, h5, h3, h4⟩, hl => ⟨c, u, h1, Nat.le_trans hl h2, h5, h3, PreU.down l h4 hl⟩
theorem PreU.snoc {w : World} {lo hi : Nat} {x : Int} {b : Nat} {u : Value} : ∀ (l : List Int) {v : Value}, PreU w lo hi v l (.pointer (some ⟨b, 0, none⟩)) → lo ≤ b → b < hi → w.heap[b]? = some (.cells #[.int .i64 x, u] 76 (0, 0)) → PreU w lo hi v (l ++ [x]) u
  | [], _, h, hb, hh, hx => ⟨b, u, h, hb, hh, hx, rfl⟩
  | _ :: l, _, ⟨c, u', h1, h2, h5, h3, h4⟩, hb, hh, hx => ⟨c, u', h1, h2, h5, h3, PreU.snoc l h4 hb hh hx⟩
theorem PreU.ch {w w' : World} {lo hi : Nat} {R : List Int} : ∀ (l : List Int) {v p : Value}, PreU w lo hi v l p → (∀ (k : Nat), lo ≤ k → k < hi → w'.heap[k]? = w.heap[k]?) → Ch w' p R → Ch w' v (l ++ R)
  | [], v, p, h, _, hr => by
    have h : v = p := h
    subst h
    exact hr
  | _ :: l, _, _, ⟨c, u, h1, h2, h5, h3, h4⟩, hk, hr => ⟨c, u, h1, (hk c h2 h5).trans h3, PreU.ch l h4 hk hr⟩

def TdpPost (v : Value) (l : List Int) (lo : Nat) (w : World) (e : Ending) (w' : World) : Prop := (∃ r, e = .returned r) ∧ Ch w' v l ∧ Below lo w w'

set_option maxHeartbeats 4000000 in
set_option maxRecDepth 20000 in
theorem drop_any (v : Value) (l : List Int) (lo hi k : Nat) (w : World) (hk : Kn lo w hi v l) (hlo : lo ≤ w.heap.size) (h1 : 1 ≤ k) (h2 : k + 1 < l.length) (hl : l.length ≤ 100) :
    Calls Try.prog 68 #[v, .int .i64 k] w (TdpPost v (l.take k ++ l.drop (k + 1)) lo w) := by
  have HDR := Lib.hid (fun (t : Nat) (ht : t < l.length) => drop_at l t ht)
  have HTK := Lib.hid (fun (t : Nat) (ht : t < l.length) => take_snoc l t ht)
  have HK := Lib.hid hk
  obtain ⟨q, rfl⟩ := hk.ptr
  clear hk
  go_enter Try.func68, Try.ntmps68
  go_wp2
  go_loopw [0, 6] (fun c s wr => ∃ (t hi' : Nat) (u : Value), t + 1 ≤ k ∧ s = .int .i64 t ∧ u = c ∧ Pre w hi' (.pointer q) (l.take t) u ∧ Kn lo w hi' u (l.drop t) ∧ wr = w) (fun _ s _ => k - (intOf s).toNat)
  case atStart => exact ⟨0, hi, _, by omega, rfl, rfl, rfl, by rw [List.drop_zero]; exact HK.out, rfl⟩
  case round =>
    obtain ⟨t, hi', u, ht, rfl, rfl, hpre, hkn, rfl⟩ := hrel
    rw [HDR.out t (by omega)] at hkn
    obtain ⟨b, u1, rfl, hb1, hb2, hb3, hkn⟩ := hkn
    obtain ⟨d1, d2, f1, f2⟩ := cells2e hb3
    have HPRE := Lib.hid hpre
    have HKN := Lib.hid hkn
    have HB3 := Lib.hid hb3
    by_cases hlt : t + 1 < k
    · have hlt' : (t : Int) < (k : Int) - 1 := by omega
      obtain ⟨q1, rfl⟩ := hkn.ptr
      have HS := Lib.hid (HTK.out t (by omega))
      clear hkn hb3 hpre
      go_wp2
      go_roundw
      case rel => exact ⟨t + 1, b, _, by omega, by go_num, rfl, by rw [HS.out]; exact Pre.snoc _ (Pre.down _ HPRE.out (Nat.le_of_lt hb2)) (Nat.le_refl _) HB3.out, HKN.out, trivial⟩
      case measure => simp [intOf]; omega
    · have hlt' : ¬ (t : Int) < (k : Int) - 1 := by omega
      have ek : k = t + 1 := by omega
      rw [HDR.out (t + 1) (by omega)] at hkn
      obtain ⟨c, u2, rfl, hc1, hc2, hc3, hkn2⟩ := hkn
      obtain ⟨d3, d4, _, _⟩ := cells2e hc3
      obtain ⟨q2, rfl⟩ := hkn2.ptr
      have HFIN := Lib.hid (show Ch (wr.setCell ⟨b, 1, none⟩ (.pointer q2)) (.pointer q) (l.take k ++ l.drop (k + 1)) by
        rw [ek, HTK.out t (by omega), List.append_assoc, List.singleton_append]
        have hset : ∀ j, j ≠ b → (wr.setCell ⟨b, 1, none⟩ (.pointer q2)).heap[j]? = wr.heap[j]? := fun j hj => Below.heap_setCell _ _ _ _ (by simpa using hj)
        refine Pre.ch _ HPRE.out (fun j hj c t hc => (hset j (by omega)).trans hc) ⟨b, _, rfl, two_set1 HB3.out _, ?_⟩
        exact Ch.keep _ (Kn.ch _ (Kn.keep _ hkn2 (fun j h3 h4 c t hc => (hset j (by omega)).trans hc))) (fun _ _ _ h => h))
      have HBB := Lib.hid ((Below.refl lo wr).setCell (p := ⟨b, 1, none⟩) hb1 (.pointer q2))
      clear hkn2 hb3 hc3 hpre ek
      go_wp2
      first | go_end0 | refine bodyPost_ret (results_none rfl _ _ _) rfl ?_
      exact ⟨⟨_, rfl⟩, HFIN.out, HBB.out⟩

theorem take_fnL (f : Nat → Int) (m k : Nat) (hk : k + 1 ≤ m) : (fnL f m).take k ++ (fnL f m).drop (k + 1) = fnL (dpF f k) (m - 1) := by
  apply List.ext_getElem?
  intro i
  have hl : (fnL f m).length = m := fnL_len f m
  by_cases h : i < k
  · rw [List.getElem?_append_left (by rw [List.length_take, hl]; omega), List.getElem?_take_of_lt h, fnL_at f m i (by omega), fnL_at _ _ i (by omega)]
    unfold dpF
    rw [if_pos h]
  · rw [List.getElem?_append_right (by rw [List.length_take, hl]; omega), List.length_take, hl, List.getElem?_drop]
    by_cases h2 : i < m - 1
    · rw [fnL_at _ _ i h2, fnL_at f m _ (by omega)]
      unfold dpF
      rw [if_neg h]
      congr 2; omega
    · rw [List.getElem?_eq_none (by rw [hl]; omega), List.getElem?_eq_none (by rw [fnL_len]; omega)]

set_option maxHeartbeats 4000000 in
set_option maxRecDepth 20000 in
theorem implThinDrop_any (v u : Value) (lo hi lo2 hi2 n m : Nat) (Z Y : Nat → Int) (k : Int) (w : World) (hv : RdI lo hi w v n Z) (hu : RdI lo2 hi2 w u m Y) (hh2 : hi2 ≤ w.heap.size) (hm : m ≤ 1048576) :
    Calls Try.prog 31 #[v, u, .int .i64 k] w (NbPost (drB n Z m Y k) (dpV n Z m Y k) w) := by
  by_cases h : ThOk n Z m Y
  · have HT := Lib.hid (thinningOf_yes v u lo hi lo2 hi2 n m Z Y w hv hu hh2 h)
    have hmn := h.len
    have hn20 := h.1.1.2
    have hm1 := h.2.1
    by_cases hk1 : 1 ≤ k
    · obtain ⟨k', rfl⟩ : ∃ k' : Nat, k = k' := ⟨k.toNat, by omega⟩
      by_cases hk2 : k' + 1 < m
      · have hd : DrOk n Z m Y k' := ⟨h, hk1, by omega⟩
        rw [drB_yes hd, dpV_yes hd]
        have HL := Lib.hid (take_fnL Y m k' (by omega))
        have hll : (fnL Y m).length = m := fnL_len Y m
        have hl100 : (fnL (dpF Y k') (m - 1)).length ≤ 100 := by rw [fnL_len]; omega
        have hk1' : ¬ (k' : Int) ≤ 0 := by omega
        have hk2' : ¬ (m : Int) - 1 ≤ k' := by omega
        obtain ⟨va, vc, rfl⟩ := hv.shape
        obtain ⟨ua, uc, rfl⟩ := hu.shape
        obtain ⟨L, eL⟩ : ∃ L, fnL Y m = L := ⟨_, rfl⟩
        rw [eL] at HT HL hll
        have HLL := Lib.hid hll
        have hL2 : L.length ≤ 100 := by omega
        have hL3 : k' + 1 < L.length := by omega
        clear hv hu h hd eL hll
        go_enter Try.func31, Try.ntmps31
        go_wp2_with fail
        refine HT.out.mono ?_
        rintro e w1 ⟨x, rfl, hkn, hb⟩
        have HB1 := Lib.hid hb
        have HCO := Lib.hid (by
          have h9 := count_any x L w1 (Kn.ch _ hkn) hL2
          rw [HLL.out] at h9
          exact h9 : Calls Try.prog 64 #[x] w1 (fun e w' => e = .returned (.int .i64 m) ∧ w' = w1))
        have HDP := Lib.hid (drop_any x L w.heap.size w1.heap.size k' w1 hkn hb.size (by omega) hL3 hL2)
        obtain ⟨xq, rfl⟩ := hkn.ptr
        clear hkn hb
        go_wp2_with fail
        refine HCO.out.mono ?_
        rintro e w2 ⟨rfl, rfl⟩
        go_wp2_with fail
        refine HDP.out.mono ?_
        rintro e w2 ⟨⟨r, rfl⟩, hch, hb⟩
        rw [HL.out] at hch
        have HPT := Lib.hid (points_any _ _ w2 hch hl100)
        have HB2 := Lib.hid (HB1.out.trans hb)
        clear hch hb
        go_wp2_with fail
        refine HPT.out.mono ?_
        rintro e w3 ⟨y, rfl, hnu, hb⟩
        have HNU := Lib.hid (hnu.down HB2.out.size)
        have HB3 := Lib.hid (HB2.out.trans (hb.mono HB2.out.size))
        obtain ⟨ya, yc, rfl⟩ := hnu.shape
        clear hnu hb
        go_wp2
        go_ret2
        exact NbPost.mk' rfl rfl HNU.out HB3.out
      · have hd : ¬ DrOk n Z m Y k' := fun g => hk2 (by have := g.2.2; omega)
        rw [drB_no hd, dpV_no hd]
        have hk1' : ¬ (k' : Int) ≤ 0 := by omega
        have hk2' : (m : Int) - 1 ≤ k' := by omega
        obtain ⟨va, vc, rfl⟩ := hv.shape
        obtain ⟨ua, uc, rfl⟩ := hu.shape
        have hll : (fnL Y m).length = m := fnL_len Y m
        clear hv hu h hd
        go_enter Try.func31, Try.ntmps31
        go_wp2_with fail
        refine HT.out.mono ?_
        rintro e w1 ⟨x, rfl, hkn, hb⟩
        have HB1 := Lib.hid hb
        have HCO := Lib.hid (by
          have h9 := count_any x (fnL Y m) w1 (Kn.ch _ hkn) (by omega)
          rw [hll] at h9
          exact h9 : Calls Try.prog 64 #[x] w1 (fun e w' => e = .returned (.int .i64 m) ∧ w' = w1))
        obtain ⟨xq, rfl⟩ := hkn.ptr
        clear hkn hb hll
        go_wp2_with fail
        refine HCO.out.mono ?_
        rintro e w2 ⟨rfl, rfl⟩
        go_wp2
        go_ret2
        exact NbPost.mk' rfl rfl (nums_none _ _) HB1.out
    · have hd : ¬ DrOk n Z m Y k := fun g => hk1 g.2.1
      rw [drB_no hd, dpV_no hd]
      have hk1' : k ≤ 0 := by omega
      obtain ⟨va, vc, rfl⟩ := hv.shape
      obtain ⟨ua, uc, rfl⟩ := hu.shape
      clear hv hu h hd hk1
      go_enter Try.func31, Try.ntmps31
      go_wp2_with fail
      refine HT.out.mono ?_
      rintro e w1 ⟨x, rfl, hkn, hb⟩
      have HB1 := Lib.hid hb
      obtain ⟨xq, rfl⟩ := hkn.ptr
      clear hkn hb
      go_wp2
      go_ret2
      exact NbPost.mk' rfl rfl (nums_none _ _) HB1.out
  · have hd : ¬ DrOk n Z m Y k := fun g => h g.1
    rw [drB_no hd, dpV_no hd]
    have HT := Lib.hid (thinningOf_no v u lo hi lo2 hi2 n m Z Y w hv hu hm h)
    obtain ⟨va, vc, rfl⟩ := hv.shape
    obtain ⟨ua, uc, rfl⟩ := hu.shape
    clear hv hu h hd
    go_enter Try.func31, Try.ntmps31
    go_wp2_with fail
    refine HT.out.mono ?_
    rintro e w1 ⟨rfl, hb⟩
    have HBW := Lib.hid hb
    clear hb
    go_wp2
    go_ret2
    exact NbPost.mk' rfl rfl (nums_none _ _) HBW.out

end Go.Proofs.Ytmfdflkpbejpoaa
