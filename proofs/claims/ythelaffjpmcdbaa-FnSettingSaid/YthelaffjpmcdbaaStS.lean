/- The model's maps: l8Map, l8Set. -/
import Derived.Test.YthelaffjpmcdbaaStM
import Derived.BigQuiet
import Derived.RegionTactic
namespace Go.Proofs.Ythelaffjpmcdbaa
open Go.RowKit
set_option linter.unusedVariables false

theorem sz_news {W : World} {b off n : Nat} {F : Nat → Int} (hc : ∀ j, j < n → W.cell? ⟨b, off + j, none⟩ = some (.int .i64 (F j))) : ∀ j u, (nsV (fnL F n))[j]? = some u → W.cell? ((⟨b, off, none⟩ : Addr).add j) = some u := fun j u hu => by
  have hj : j < n := by
    have := (List.getElem?_eq_some_iff.1 hu).1
    simpa [nsV, fnL_len] using this
  have e2 : (nsV (fnL F n))[j]? = some (.int .i64 (F j)) := by rw [nsV_at _ _ (by rw [fnL_len]; exact hj), fnL_z F n j hj]
  rw [e2] at hu
  obtain rfl := Option.some.inj hu
  rw [add_none]
  exact hc j hj

theorem lsPost1_mk {n : Nat} {Z : Nat → Int} {w w' : World} {b : Nat} {cap : Nat} {N : Nat} {F : Nat → Value} (hb : w.heap.size ≤ b) (h : w'.rowIs b 3 N F) (hn : n ≤ N) (hc : n ≤ cap) (hcap : cap ≤ 9223372036854775807) (hF : ∀ i, i < n → F i = .int .i64 (Z i)) (hZ : ∀ i, i < n → -9223372036854775808 ≤ Z i ∧ Z i ≤ 9223372036854775807) (hbel : Below w.heap.size w w') :
    LsPost1 n Z w (.returned (.slice (some ⟨b, 0, none⟩) n cap)) w' :=
  ⟨_, rfl, ⟨_, _, _, rfl⟩, OwI.rd (Or.inr ⟨b, N, cap, F, rfl, hb, h.lt, h, hn, hc, hcap, hF, hZ⟩), hbel⟩

set_option maxRecDepth 20000 in
set_option maxHeartbeats 8000000 in
theorem l8Map_any (v : Value) (lo hi n : Nat) (Z : Nat → Int) (w : World) (hv : RdT lo hi w v n Z) (hh : hi ≤ w.heap.size) (hok : LsOk n Z) :
    Calls Try.prog 62 #[v] w (LsPost1 100 (mpK Z n) w) := by
  obtain ⟨ao, cap, b, off, rfl, h2, h3, h4, h5, h6⟩ := hv
  have hmk : (Instr.makeSlice 26 (.int .i64 100) (.int .i64 100)).run Try.prog w = _ := run_make_row' (P := Try.prog) 26 3 (.int .i64 0) 8 Try.underlying26 Try.infoI rfl .i64 .i64 100 (by omega) (by omega) w
  have H6 := Lib.hid h6
  have HZ := Lib.hid hok.2
  have hn6 := hok.1
  clear h4 h6 hok
  go_enter Try.func62, Try.ntmps62
  go_wp2
  clear hmk
  go_loopw [4] (fun i wr => ∃ k : Nat, k ≤ n ∧ i = .int .i64 k ∧ wr.rowIs w.heap.size 3 100 (fun j => .int .i64 (mpK Z k j)) ∧ Below w.heap.size w wr)
    (fun i _ => n - (intOf i).toNat)
  case atStart => exact ⟨0, Nat.zero_le _, rfl, (World.rowIs_made w _ 100 3).congr (fun j _ => rfl), (Below.refl _ _).alloc (Nat.le_refl _) _⟩
  case round =>
    obtain ⟨k, hk, rfl, hrow, hbel⟩ := hrel
    by_cases hlt : k < n
    · obtain ⟨rfl, hb1, hb2⟩ := h5 (by omega)
      obtain ⟨c0, c1, _, _⟩ := four_of (w := wr) (fun i hi => (hbel.cell (p := ⟨b, off + i, none⟩) (by show b < _; omega)).trans (H6.out i hi)) hlt
      have hlt' : (k : Int) < n := by omega
      obtain ⟨⟨x1, x2⟩, ⟨y1, y2⟩, _⟩ := (HZ.out k hlt).1
      have HM := Lib.hid (show ∀ j, mpK Z (k + 1) j = if j = (10 * Z (k * 4 + 1) + Z (k * 4)).toNat then -1 else mpK Z k j from fun j => rfl)
      obtain ⟨X, eX⟩ : ∃ X, Z (k * 4) = X := ⟨_, rfl⟩
      obtain ⟨Y, eY⟩ : ∃ Y, Z (k * 4 + 1) = Y := ⟨_, rfl⟩
      rw [eX, eY] at HM
      rw [eX] at c0 x1 x2
      rw [eY] at c1 y1 y2
      have q2 := hrow.cell (i := (10 * Y + X).toNat) (by omega)
      have q3 := hrow.frozen (10 * Y + X).toNat
      have R1 := Lib.hid ((hrow.set (10 * Y + X).toNat (.int .i64 (-1))).congr (g := fun j => .int .i64 (mpK Z (k + 1) j)) (fun j hj => by
        show (if j = (10 * Y + X).toNat then _ else _) = _
        rw [HM.out j]
        split <;> rfl))
      have R2 := Lib.hid (hbel.setCell (p := ⟨w.heap.size, (10 * Y + X).toNat, none⟩) (Nat.le_refl _) (.int .i64 (-1)))
      clear h5 hrow hbel eX eY
      go_wp2
      go_region
      go_wp2
      go_roundw
      case rel => exact ⟨k + 1, by omega, by go_num, R1.out.drew, below_drewN R2.out 1⟩
      case measure => simp [intOf]; omega
    · obtain rfl : k = n := by omega
      have R1 := Lib.hid hrow
      have R2 := Lib.hid hbel
      clear h5 hrow hbel
      go_wp2
      go_ret
      exact lsPost1_mk (Nat.le_refl _) R1.out (Nat.le_refl _) (Nat.le_refl _) (by omega) (fun _ _ => rfl) (fun i _ => by have := mpK_ok Z k i; omega) R2.out

theorem sz_len (n : Nat) (F : Nat → Int) : (nsV (fnL F n)).length = n := by simp [nsV, fnL_len]
/-- a map to read, and whether -/
def NoPost (w : World) (e : Ending) (w' : World) : Prop := ∃ v, e = .returned (.tuple #[v, .bool false]) ∧ (∃ a l c, v = .slice a l c) ∧ Below w.heap.size w w'
def SePost (Z M : Nat → Int) (k : Nat) (s : Int) (w : World) (e : Ending) (w' : World) : Prop :=
  (Fit Z M k s → LsPost true 100 (stp Z M k s) w e w') ∧ (¬ Fit Z M k s → NoPost w e w')

set_option maxRecDepth 20000 in
set_option maxHeartbeats 16000000 in
theorem l8Set_any (v : Value) (lo hi : Nat) (Z M : Nat → Int) (k : Nat) (s : Int) (w : World) (hv : RdI lo hi w v 100 M) (hh : hi ≤ w.heap.size) (hM : MpOk M) (hk : k < 6) (hz : LzOk Z k) (hs : 0 ≤ s ∧ s ≤ 3) :
    Calls Try.prog 69 #[v, .agg #[.int .i64 (Z (k * 4)), .int .i64 (Z (k * 4 + 1)), .int .i64 (Z (k * 4 + 2)), .int .i64 (Z (k * 4 + 3))], .int .i64 s, .int .i64 ((k : Int) + 1)] w (SePost Z M k s w) := by
  obtain ⟨i0, hi0, hz0, hz1, hz2⟩ := info_parts Try.infoI
  have HB := Lib.hid (show Below w.heap.size w (w.alloc (.cells #[.int .i64 (Z (k * 4)), .int .i64 (Z (k * 4 + 1)), .int .i64 (Z (k * 4 + 2)), .int .i64 (Z (k * 4 + 3))] 28)) from (Below.refl _ _).alloc (Nat.le_refl _) _)
  have HP := Lib.hid (fun W : World => l8Places_any _ _ _ _ s W hz.1 hs)
  obtain ⟨b, off, cap, rfl, hcap, hb1, hb2, hc⟩ := hv.open (by omega)
  have HC := Lib.hid (fun (W : World) (hbb : Below w.heap.size w W) (j : Nat) (hj : j < 100) => (hbb.cell (p := ⟨b, off + j, none⟩) (by show b < _; omega)).trans (hc j hj))
  have HMO := Lib.hid (show NsOk (fnL M 100) from fnL_ok (fun i _ => by have := hM i; omega))
  have HS := Lib.hid hs
  have hMO := hM
  clear hc hv hM
  by_cases hp : PcZ Z k s
  case neg =>
    have HF := Lib.hid (show ¬ Fit Z M k s from fun h => hp h.2.1)
    rw [pcL_no hp] at HP
    clear hp
    go_enter Try.func69, Try.ntmps69
    go_wp2_with fail
    refine (HP.out _).mono ?_
    rintro e w1 ⟨vp, rfl, hn1, hb3⟩
    obtain ⟨va, vc, rfl⟩ := hn1.shape
    have HB1 := Lib.hid (HB.out.trans (hb3.mono (by simp)))
    have HB2 := Lib.hid (HB1.out.alloc HB1.out.size (.cells #[] 3))
    have HL1 := Lib.hid (nums_lit w1)
    clear hb3 hn1
    go_wp2_with (first | (at_builtin; refine wpList_append_own _ rfl _ _ 26 rfl w1.heap.size 3 i0 (.int .i64 0) 1 8 Try.underlying26 hi0 hz0 hz1 hz2 rfl (by decide) _ 0 (nsV []) rfl HL1.out ⟨b, off, none⟩ 100 cap (nsV (fnL M 100)) rfl (sz_len _ _) (sz_news (HC.out _ HB2.out)) (by simp [nsV, Value.oneCell']) (by unfold maxLen; omega) (by omega) (by simp) ?_; intro v' w4 hown4 hg4 _))
    have HB4 := Lib.hid (HB2.out.grown hg4 (by simp; have := HB1.out.size; omega) (fun q hq => by have := (HL1.out.lt q hq).1; have := HB1.out.size; omega))
    obtain ⟨oa, oc, rfl⟩ := own_shape hown4
    clear hown4 hg4
    go_wp2
    refine wp_loop_rounds 1 ?_
    rw [rounds_succ]
    go_wp2
    go_ret2
    exact ⟨fun h => absurd h HF.out, fun _ => ⟨_, rfl, ⟨_, _, _, rfl⟩, HB4.out⟩⟩
  obtain ⟨ea, ⟨hw1, hw2⟩, ha, hwz⟩ := at_facts hz hp
  have HPL := Lib.hid (show pcL (Z (k * 4)) (Z (k * 4 + 1)) (Z (k * 4 + 2)) s = plK (atA Z k s : Int) (wdN Z k) by
    rw [pcL_yes hp, ea]; rfl)
  rw [HPL.out] at HP
  clear HPL ea hwz
  obtain ⟨n, en⟩ : ∃ n, wdN Z k = n := ⟨_, rfl⟩
  obtain ⟨q, eq⟩ : ∃ q, atA Z k s = q := ⟨_, rfl⟩
  rw [en] at hw1 hw2 ha HP
  rw [eq] at ha HP
  have HF1 := Lib.hid (show (∀ i, i < n → M (q + i) = 0) → Fit Z M k s from fun h => ⟨hs, hp, by rw [en, eq]; exact h⟩)
  have HF2 := Lib.hid (show Fit Z M k s → ∀ i, i < n → M (q + i) = 0 from fun h => by have := h.2.2; rw [en, eq] at this; exact this)
  have HST := Lib.hid (show ∀ j, stp Z M k s j = if q ≤ j ∧ j < q + n then (k : Int) + 1 else M j from fun j => by unfold stp; rw [en, eq])
  have HSO := Lib.hid (stp_ok (s := s) (Z := Z) (show MpOk M from hMO) hk)
  clear en eq hp
  go_enter Try.func69, Try.ntmps69
  go_wp2_with fail
  refine (HP.out _).mono ?_
  rintro e w1 ⟨vp, rfl, hn1, hb3⟩
  obtain ⟨pb, poff, pcap, rfl, _, hpb1, hpb2, hpc⟩ := (hn1.rdI (plK_ok (by omega) (by omega) (by omega))).open (by rw [plK_len]; omega)
  rw [plK_len] at hpc
  have HPC := Lib.hid (show ∀ (W : World), Below w1.heap.size w1 W → ∀ i, i < n → W.cell? ⟨pb, poff + i, none⟩ = some (.int .i64 ((q : Int) + i)) from fun W hbb i hi => (hbb.cell (p := ⟨pb, poff + i, none⟩) hpb2).trans ((hpc i hi).trans (by rw [plK_at _ _ i hi])))
  have HB1 := Lib.hid (HB.out.trans (hb3.mono (by simp)))
  have HB2 := Lib.hid (HB1.out.alloc HB1.out.size (.cells #[] 3))
  have HL1 := Lib.hid (nums_lit w1)
  have HR1 := Lib.hid (show Below w1.heap.size w1 (w1.alloc (.cells #[] 3)) from (Below.refl _ _).alloc (Nat.le_refl _) _)
  rw [plK_len]
  clear hb3 hn1 hpc
  go_wp2_with (first | (at_builtin; refine wpList_append_own _ rfl _ _ 26 rfl w1.heap.size 3 i0 (.int .i64 0) 1 8 Try.underlying26 hi0 hz0 hz1 hz2 rfl (by decide) _ 0 (nsV []) rfl HL1.out ⟨b, off, none⟩ 100 cap (nsV (fnL M 100)) rfl (sz_len _ _) (sz_news (HC.out _ HB2.out)) (by simp [nsV, Value.oneCell']) (by unfold maxLen; omega) (by omega) (by simp) ?_; intro v' w4 hown4 hg4 _))
  have HR4 := Lib.hid (HR1.out.grown hg4 (by simp) (fun q hq => (HL1.out.lt q hq).1))
  have hnum : Nums w1.heap.size w4 v' (fnL M 100) := by
    unfold Nums
    rw [fnL_len]
    simpa [nsV] using hown4
  have how := hnum.owI HMO.out
  rw [fnL_len] at how
  rcases how with ⟨_, h0⟩ | ⟨ob, N, ocap, F, rfl, ho1, ho2, hrow, hN, hoc, hocap, hF, _⟩
  · omega
  have HF := Lib.hid (show ∀ j, j < 100 → F j = .int .i64 (M j) from fun j hj => by rw [hF j hj, fnL_z M 100 j hj])
  clear hown4 hg4 hnum hF
  go_wp2
  go_loopw [12] (fun i wr => ∃ m : Nat, m ≤ n ∧ i = .int .i64 m ∧ (∀ j, j < m → M (q + j) = 0) ∧ wr.rowIs ob 3 N (fun j => if q ≤ j ∧ j < q + m then .int .i64 ((k : Int) + 1) else F j) ∧ Below w1.heap.size w1 wr)
    (fun i _ => n - (intOf i).toNat)
  case atStart => exact ⟨0, Nat.zero_le _, rfl, fun j hj => by omega, hrow.congr (fun j _ => by rw [if_neg (by omega)]), HR4.out⟩
  case round =>
    obtain ⟨m, hm, rfl, hd, hrw, hbel⟩ := hrel
    have HD := Lib.hid hd
    have HBL := Lib.hid hbel
    clear hd
    by_cases hlt : m < n
    · have hlt' : (m : Int) < n := by omega
      have c1 := HPC.out wr hbel m hlt
      have c2 := hrw.cell (i := q + m) (by omega)
      rw [if_neg (by omega), HF.out _ (by omega)] at c2
      have c3 := hrw.frozen (q + m)
      by_cases hm0 : M (q + m) = 0
      · rw [hm0] at c2
        have R1 := Lib.hid ((hrw.set (q + m) (.int .i64 ((k : Int) + 1))).congr (g := fun j => if q ≤ j ∧ j < q + (m + 1) then .int .i64 ((k : Int) + 1) else F j) (fun j hj => by
          by_cases e : j = q + m
          · rw [if_pos e, if_pos (by omega)]
          · rw [if_neg e]
            by_cases e2 : q ≤ j ∧ j < q + m
            · rw [if_pos e2, if_pos (by omega)]
            · rw [if_neg e2, if_neg (by omega)]))
        have R2 := Lib.hid (hbel.setCell (p := ⟨ob, q + m, none⟩) ho1 (.int .i64 ((k : Int) + 1)))
        clear hrw hbel
        have q0 : (0 : Int) ≤ (q : Int) + m := by omega
        have q1 : (q : Int) + m < 100 := by omega
        go_wp2
        go_roundw
        case rel => exact ⟨m + 1, by omega, by go_num, fun j hj => by
          rcases Nat.lt_or_ge j m with h | h
          · exact HD.out j h
          · obtain rfl : j = m := by omega
            exact hm0, R1.out, R2.out⟩
        case measure => simp [intOf]; omega
      · have HE := Lib.hid (show ¬ Fit Z M k s from fun h => hm0 (HF2.out h m hlt))
        have hne : (M (q + m) != 0) = true := by simpa using hm0
        clear hrw hbel hm0
        have q0 : (0 : Int) ≤ (q : Int) + m := by omega
        have q1 : (q : Int) + m < 100 := by omega
        go_wp2
        go_ret2
        exact ⟨fun h => absurd h HE.out, fun _ => ⟨_, rfl, ⟨_, _, _, rfl⟩, HB1.out.trans ((HBL.out.alloc HBL.out.size _).mono HB1.out.size)⟩⟩
    · obtain rfl : m = n := by omega
      have HE := Lib.hid (HF1.out HD.out)
      have R1 := Lib.hid hrw
      have hm0 : (0 : Int) < m := by omega
      clear hrw hbel
      go_wp2
      go_ret2
      refine ⟨fun _ => ⟨_, by simp; omega, ⟨_, _, _, rfl⟩, OwI.rd (Or.inr ⟨ob, N, ocap, _, rfl, by have := HB1.out.size; omega, R1.out.lt, R1.out, hN, hoc, hocap, fun j hj => ?_, fun j _ => by have := HSO.out j; omega⟩), HB1.out.trans (HBL.out.mono HB1.out.size)⟩, fun h => absurd HE.out h⟩
      show (if _ then _ else _) = _
      rw [HST.out j, HF.out j hj]
      split <;> rfl

end Go.Proofs.Ythelaffjpmcdbaa
