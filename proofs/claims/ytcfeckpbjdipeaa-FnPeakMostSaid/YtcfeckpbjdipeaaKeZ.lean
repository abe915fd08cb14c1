/- Keys and prominences: what is reckoned. -/
import Derived.Test.YtcfeckpbjdipeaaPv
import Derived.Test.YtcfeckpbjdipeaaGrZ
import Derived.Test.YtcfeckpbjdipeaaPsW
import Derived.Test.YtcfeckpbjdipeaaPqZ
import Derived.Test.YtcfeckpbjdipeaaPkLI
import Derived.Test.YtcfeckpbjdipeaaRgZ
namespace Go.Proofs.Ytcfeckpbjdipeaa
set_option linter.unusedVariables false

/-- the greatest pass to a cell of a kind, or the least height if there is none -/
def PsTo (R C : Nat) (Z : Nat → Int) (st : Ix (R * C)) (wt : Ix (R * C) → Bool) (v : Int) : Prop :=
  (∃ x, wt x = true ∧ IsPs R C Z st x v ∧ ∀ y q, wt y = true → IsPs R C Z st y q → q ≤ v) ∨ ((∀ x, wt x = false) ∧ (∀ x : Ix (R * C), v ≤ Z x.1) ∧ ∀ q, (∀ x : Ix (R * C), q ≤ Z x.1) → q ≤ v)
theorem PsTo.eq {R C : Nat} {Z : Nat → Int} {st : Ix (R * C)} {wt : Ix (R * C) → Bool} {v v' : Int} (h : PsTo R C Z st wt v) (k : PsTo R C Z st wt v') : v = v' := by
  rcases h with ⟨x, h1, h2, h3⟩ | ⟨h1, h2, h3⟩
  · rcases k with ⟨y, k1, k2, k3⟩ | ⟨k1, k2, k3⟩
    · have := h3 y v' k1 k2
      have := k3 x v h1 h2
      omega
    · rw [k1] at h1; cases h1
  · rcases k with ⟨y, k1, k2, k3⟩ | ⟨k1, k2, k3⟩
    · rw [h1] at k1; cases k1
    · have := h3 v' k2
      have := k3 v h2
      omega

theorem mn_leK (Z : Nat → Int) : ∀ {n x : Nat}, x < n → mn Z n ≤ Z x
  | 0, x, h => by omega
  | n + 1, x, h => by
    show min (mn Z n) (Z n) ≤ Z x
    by_cases e : x = n
    · subst e; omega
    · have := mn_leK Z (n := n) (x := x) (by omega)
      omega
theorem mn_isK (Z : Nat → Int) : ∀ {n : Nat}, 0 < n → ∃ x, x < n ∧ mn Z n = Z x
  | 0, h => by omega
  | n + 1, _ => by
    show ∃ x, x < n + 1 ∧ min (mn Z n) (Z n) = Z x
    rcases Nat.eq_zero_or_pos n with e | e
    · subst e
      refine ⟨0, by omega, ?_⟩
      show min (Z 0) (Z 0) = Z 0
      omega
    · obtain ⟨x, hx, ex⟩ := mn_isK Z e
      by_cases h : mn Z n ≤ Z n
      · exact ⟨x, by omega, by omega⟩
      · exact ⟨n, by omega, by omega⟩

/-- the greatest of the passes to the higher cells below k -/
noncomputable def kyN (R C : Nat) (Z : Nat → Int) (i : Ix (R * C)) : Nat → Int
  | 0 => -1
  | k + 1 => if hiB Z k i.1 = true then max (kyN R C Z i k) (psV R C Z i k) else kyN R C Z i k
noncomputable def keyV (R C : Nat) (Z : Nat → Int) (i : Ix (R * C)) : Int := if kyN R C Z i (R * C) < 0 then mn Z (R * C) else kyN R C Z i (R * C)
theorem kyN_yes {R C : Nat} {Z : Nat → Int} {i : Ix (R * C)} {k : Nat} (h : hiB Z k i.1 = true) : kyN R C Z i (k + 1) = max (kyN R C Z i k) (psV R C Z i k) := by show (if _ then _ else _) = _; rw [if_pos h]
theorem kyN_no {R C : Nat} {Z : Nat → Int} {i : Ix (R * C)} {k : Nat} (h : hiB Z k i.1 = false) : kyN R C Z i (k + 1) = kyN R C Z i k := by show (if _ then _ else _) = _; rw [if_neg (by rw [h]; simp)]
theorem psV_ge {R C : Nat} {Z : Nat → Int} (hZ : ∀ x, x < R * C → 0 ≤ Z x ∧ Z x ≤ 99) (a b : Ix (R * C)) : 0 ≤ psV R C Z a b.1 ∧ psV R C Z a b.1 ≤ 99 := by
  have h := psV_is hZ a b
  have h1 := h.2 0 (rch_all (fun y hy => (hZ y hy).1) a b)
  have h2 := h.1.lst
  have := hZ b.1 b.2
  omega
theorem kyN_spec {R C : Nat} {Z : Nat → Int} (hZ : ∀ x, x < R * C → 0 ≤ Z x ∧ Z x ≤ 99) (i : Ix (R * C)) : ∀ k, k ≤ R * C → (kyN R C Z i k = -1 ∧ ∀ x, x < k → hiB Z x i.1 = false) ∨
    (∃ x : Ix (R * C), x.1 < k ∧ hiB Z x.1 i.1 = true ∧ kyN R C Z i k = psV R C Z i x.1 ∧ ∀ y : Ix (R * C), y.1 < k → hiB Z y.1 i.1 = true → psV R C Z i y.1 ≤ kyN R C Z i k)
  | 0, _ => Or.inl ⟨rfl, fun x h => by omega⟩
  | k + 1, hk => by
    have ih := kyN_spec hZ i k (by omega)
    have hr := psV_ge hZ i ⟨k, by omega⟩
    by_cases hb : hiB Z k i.1 = true
    · right
      rw [kyN_yes hb]
      rcases ih with ⟨h1, h2⟩ | ⟨x, h1, h2, h3, h4⟩
      · refine ⟨⟨k, by omega⟩, Nat.lt_succ_self k, hb, by rw [h1]; show max (-1) (psV R C Z i k) = psV R C Z i k; have : 0 ≤ psV R C Z i k := hr.1; omega, fun y hy hy2 => ?_⟩
        by_cases e : y.1 = k
        · rw [e]; omega
        · have := h2 y.1 (by omega)
          rw [this] at hy2; cases hy2
      · by_cases hm : kyN R C Z i k ≤ psV R C Z i k
        · refine ⟨⟨k, by omega⟩, Nat.lt_succ_self k, hb, by show max (kyN R C Z i k) (psV R C Z i k) = psV R C Z i k; omega, fun y hy hy2 => ?_⟩
          by_cases e : y.1 = k
          · rw [e]; omega
          · have := h4 y (by omega) hy2
            omega
        · refine ⟨x, by omega, h2, by rw [← h3]; omega, fun y hy hy2 => ?_⟩
          by_cases e : y.1 = k
          · rw [e]; omega
          · have := h4 y (by omega) hy2
            omega
    · have hb' : hiB Z k i.1 = false := by simpa using hb
      rw [kyN_no hb']
      rcases ih with ⟨h1, h2⟩ | ⟨x, h1, h2, h3, h4⟩
      · refine Or.inl ⟨h1, fun x hx => ?_⟩
        by_cases e : x = k
        · subst e; exact hb'
        · exact h2 x (by omega)
      · refine Or.inr ⟨x, by omega, h2, h3, fun y hy hy2 => ?_⟩
        by_cases e : y.1 = k
        · rw [e, hb'] at hy2; cases hy2
        · exact h4 y (by omega) hy2
theorem keyV_is {R C : Nat} {Z : Nat → Int} (hZ : ∀ x, x < R * C → 0 ≤ Z x ∧ Z x ≤ 99) (i : Ix (R * C)) : PsTo R C Z i (fun x => hiB Z x.1 i.1) (keyV R C Z i) := by
  unfold keyV
  rcases kyN_spec hZ i (R * C) (Nat.le_refl _) with ⟨h1, h2⟩ | ⟨x, h1, h2, h3, h4⟩
  · rw [if_pos (by omega)]
    refine Or.inr ⟨fun x => h2 x.1 x.2, fun x => mn_leK Z x.2, fun q hq => ?_⟩
    obtain ⟨y, hy, e⟩ := mn_isK Z (n := R * C) (by have := i.2; omega)
    rw [e]
    exact hq ⟨y, hy⟩
  · have hr := psV_ge hZ i x
    rw [if_neg (by omega)]
    refine Or.inl ⟨x, h2, by rw [h3]; exact psV_is hZ i x, fun y q hy hq => ?_⟩
    have := h4 y y.2 hy
    have e := hq.eq (psV_is hZ i y)
    omega
theorem keyV_range {R C : Nat} {Z : Nat → Int} (hZ : ∀ x, x < R * C → 0 ≤ Z x ∧ Z x ≤ 99) (i : Ix (R * C)) : 0 ≤ keyV R C Z i ∧ keyV R C Z i ≤ 99 := by
  rcases keyV_is hZ i with ⟨x, h1, h2, h3⟩ | ⟨h1, h2, h3⟩
  · have e := h2.eq (psV_is hZ i x)
    have := psV_ge hZ i x
    omega
  · have := h2 i
    have := hZ i.1 i.2
    have := h3 0 (fun x => (hZ x.1 x.2).1)
    omega

open Classical in
noncomputable def G.kyV (g : G) (i : Int) : Int := if h : g.PkIn i then (if g.pkB i = true then keyV g.n (g.len 0) g.flat ⟨i.toNat, by have := h.2; omega⟩ else -1) else -1
theorem G.kyV_no {g : G} {i : Int} (h : g.pkB i = false) : g.kyV i = -1 := by
  unfold G.kyV
  split
  · rw [if_neg (by rw [h]; simp)]
  · rfl
theorem G.kyV_yes {g : G} {i : Ix (g.n * g.len 0)} (h : g.Valid) (hp : g.pkB (i.1 : Int) = true) : g.kyV (i.1 : Int) = keyV g.n (g.len 0) g.flat i := by
  have hin : g.PkIn (i.1 : Int) := ⟨h, by omega, by have := i.2; omega⟩
  unfold G.kyV
  rw [dif_pos hin, if_pos hp]
  congr 1

end Go.Proofs.Ytcfeckpbjdipeaa

/- Keys and prominences in the model. -/
namespace Go.Proofs.Ytcfeckpbjdipeaa
open Go.RowKit
set_option linter.unusedVariables false

theorem pkB_inS {g : G} {i : Int} (h : g.pkB i = true) : g.PkIn i := by
  apply Classical.byContradiction
  intro k
  rw [G.pkB_no k] at h
  cases h

set_option maxHeartbeats 8000000 in
set_option maxRecDepth 100000 in
theorem specPeakKey_any (v : Value) (lo hi : Nat) (g : G) (i : Int) (w : World) (hv : RdM lo hi w v g) (hh : hi ≤ w.heap.size) :
    Calls Try.prog 27 #[v, .int .i64 i] w (IntPost (g.kyV i) w) := by
  have HP := Lib.hid (specPeakIs_any v lo hi g i w hv hh)
  by_cases hp : g.pkB i = true
  case neg =>
    have hp' : g.pkB i = false := by simpa using hp
    have HA := Lib.hid (G.kyV_no hp')
    rw [hp'] at HP
    clear hv hp hp'
    go_enter Try.func27, Try.ntmps27
    go_wp2_with fail
    refine HP.out.mono ?_
    rintro e w1 ⟨rfl, hb1⟩
    have HB1 := Lib.hid hb1
    clear hb1
    go_wp2
    go_ret
    exact ⟨ret_int HA.out.symm, HB1.out⟩
  case pos =>
    have hin := pkB_inS hp
    rw [hp] at HP
    obtain ⟨x, hx⟩ : ∃ x : Ix (g.n * g.len 0), (x.1 : Int) = i := ⟨⟨i.toNat, by have := hin.2; omega⟩, by have := hin.2; show ((i.toNat : Nat) : Int) = i; omega⟩
    subst hx
    have hval := hin.1
    have HA := Lib.hid (G.kyV_yes hval hp)
    have hx48 := x.2
    have h49 := mul_le_49 hval.1.2 hval.2.1.2
    have HZ := Lib.hid (show ∀ a, a < g.n * g.len 0 → 0 ≤ g.flat a ∧ g.flat a ≤ 99 from fun a ha => flat_okW hval ha)
    obtain ⟨N, eN⟩ : ∃ N, g.n * g.len 0 = N := ⟨_, rfl⟩
    have EN := Lib.hid eN
    have HPV := Lib.hid (fun (W : World) (hW : RdM lo hi W v g) (hs : hi ≤ W.heap.size) => show Calls Try.prog 64 #[v, .int .i64 x.1] W (fun e w' => ∃ b, e = .returned (.slice (some ⟨b, 0, none⟩) N N) ∧ W.heap.size ≤ b ∧ w'.rowIs b 3 N (ivF (psV g.n (g.len 0) g.flat x)) ∧ Below W.heap.size W w') from by
      rw [← eN]
      exact l4Passes_any v lo hi g g.n (g.len 0) rfl rfl x W hW hs hval)
    have HHI := Lib.hid (fun (a : Nat) (ha : a < g.n * g.len 0) (W : World) (hW : RdM lo hi W v g) => l4Higher_any v lo hi g a x.1 W hW hval ha x.2)
    have HGR := Lib.hid (fun (W : World) (hW : RdM lo hi W v g) => specGridRange_yes v lo hi g W hW hval)
    have HV := Lib.hid hv
    obtain ⟨xx, exx⟩ : ∃ a, x.1 = a := ⟨_, rfl⟩
    have exx2 := Lib.hid exx
    rw [eN] at h49
    rw [exx] at HP HPV HHI HA ⊢
    clear hv hp hin hval eN exx hx48
    go_enter Try.func27, Try.ntmps27
    go_wp2_with fail
    refine HP.out.mono ?_
    rintro e w1 ⟨rfl, hb1⟩
    have HB1 := Lib.hid hb1
    have hs1 := hb1.size
    have HPV1 := Lib.hid (HPV.out w1 (HV.out.same (SameIn.below hb1 hh)) (by omega))
    clear hb1
    go_wp2_with fail
    refine HPV1.out.mono ?_
    rintro e w2 ⟨b, rfl, hbb, hrow, hb2⟩
    have HB2 := Lib.hid (HB1.out.trans (hb2.mono hs1))
    have HROW := Lib.hid hrow
    have HV2 := Lib.hid (HV.out.same (SameIn.below HB2.out hh))
    clear hb2 hrow
    go_wp2
    go_loopw [6, 7] (fun s6 s7 wr => ∃ k m : Nat, k ≤ N ∧ s7 = .int .i64 k ∧ s6 = .int .i64 (kyN g.n (g.len 0) g.flat x k) ∧ wr = w2.drewN m) (fun _ s7 _ => N - (intOf s7).toNat)
    case atStart => exact ⟨0, 0, Nat.zero_le _, rfl, rfl, rfl⟩
    case round =>
      obtain ⟨k, m, hk, rfl, rfl, rfl⟩ := hrel
      by_cases hlt : k < N
      case pos =>
        have hlt' : (k : Int) < N := by omega
        have c1 : (w2.drewN m).cell? ⟨b, k, none⟩ = some (.int .i64 (psV g.n (g.len 0) g.flat x k)) := HROW.out.cell hlt
        have HHK := Lib.hid (HHI.out k (by rw [EN.out]; exact hlt) (w2.drewN m) (HV2.out.same (fun _ _ _ => rfl)))
        have HKY := Lib.hid (fun (h : hiB g.flat k xx = true) => kyN_yes (R := g.n) (C := g.len 0) (Z := g.flat) (i := x) (k := k) (by rw [exx2.out]; exact h))
        have HKN := Lib.hid (fun (h : hiB g.flat k xx = false) => kyN_no (R := g.n) (C := g.len 0) (Z := g.flat) (i := x) (k := k) (by rw [exx2.out]; exact h))
        obtain ⟨t, et⟩ : ∃ t, hiB g.flat k xx = t := ⟨_, rfl⟩
        rw [et] at HHK HKY HKN
        obtain ⟨p, ep⟩ : ∃ p, psV g.n (g.len 0) g.flat x k = p := ⟨_, rfl⟩
        rw [ep] at c1 HKY
        obtain ⟨q, eq⟩ : ∃ q, kyN g.n (g.len 0) g.flat x k = q := ⟨_, rfl⟩
        rw [eq] at HKY HKN ⊢
        clear et ep eq hlt
        cases t
        case true =>
          have HS := Lib.hid (HKY.out rfl)
          go_wp2_with fail
          refine HHK.out.mono ?_
          rintro e w3 ⟨rfl, m2, rfl⟩
          have c2 : (w2.drewN (m + m2)).cell? ⟨b, k, none⟩ = some (.int .i64 p) := c1
          clear c1
          go_wp2
          go_roundw
          case rel => exact ⟨k + 1, m + m2, by omega, by go_num, by rw [HS.out], rfl⟩
          case measure => simp [intOf]; omega
        case false =>
          have HS := Lib.hid (HKN.out rfl)
          go_wp2_with fail
          refine HHK.out.mono ?_
          rintro e w3 ⟨rfl, m2, rfl⟩
          clear c1
          go_wp2
          go_roundw
          case rel => exact ⟨k + 1, m + m2, by omega, by go_num, by rw [HS.out], rfl⟩
          case measure => simp [intOf]; omega
      case neg =>
        have ek : k = g.n * g.len 0 := by rw [EN.out]; omega
        have hge : ¬ (k : Int) < N := by omega
        have HKV := Lib.hid (show keyV g.n (g.len 0) g.flat x = if kyN g.n (g.len 0) g.flat x k < 0 then mn g.flat (g.n * g.len 0) else kyN g.n (g.len 0) g.flat x k by rw [ek]; rfl)
        obtain ⟨q, eq⟩ : ∃ q, kyN g.n (g.len 0) g.flat x k = q := ⟨_, rfl⟩
        rw [eq] at HKV ⊢
        clear ek eq hlt
        by_cases h0 : q < 0
        case pos =>
          have HE := Lib.hid (show g.kyV (xx : Int) = mn g.flat (g.n * g.len 0) by rw [HA.out, HKV.out, if_pos h0])
          have HG := Lib.hid (HGR.out (w2.drewN m) (HV2.out.same (fun _ _ _ => rfl)))
          go_wp2_with fail
          refine HG.out.mono ?_
          rintro e w3 ⟨rfl, hb3⟩
          have HB3 := Lib.hid ((below_drewN HB2.out m).trans (hb3.mono HB2.out.size))
          clear hb3
          go_wp2
          go_ret
          exact ⟨ret_int HE.out.symm, HB3.out⟩
        case neg =>
          have HE := Lib.hid (show g.kyV (xx : Int) = q by rw [HA.out, HKV.out, if_neg h0])
          have h0' : decide (q < 0) = false := by simpa using h0
          go_wp2
          go_ret
          exact ⟨ret_int HE.out.symm, below_drewN HB2.out m⟩

/-- prominences -/
noncomputable def G.prV (g : G) (i : Int) : Int := if g.pkB i = true then g.flat i.toNat - g.kyV i else -1

set_option maxHeartbeats 1000000 in
set_option maxRecDepth 100000 in
theorem specPeakProminence_any (v : Value) (lo hi : Nat) (g : G) (i : Int) (w : World) (hv : RdM lo hi w v g) (hh : hi ≤ w.heap.size) :
    Calls Try.prog 31 #[v, .int .i64 i] w (IntPost (g.prV i) w) := by
  have HK := Lib.hid (specPeakKey_any v lo hi g i w hv hh)
  by_cases hp : g.pkB i = true
  case neg =>
    have hp' : g.pkB i = false := by simpa using hp
    rw [G.kyV_no hp'] at HK
    have HA := Lib.hid (show g.prV i = -1 by unfold G.prV; rw [if_neg hp])
    clear hv hp hp'
    go_enter Try.func31, Try.ntmps31
    go_wp2_with fail
    refine HK.out.mono ?_
    rintro e w1 ⟨rfl, hb1⟩
    have HB1 := Lib.hid hb1
    clear hb1
    go_wp2
    go_ret
    exact ⟨ret_int HA.out.symm, HB1.out⟩
  case pos =>
    have hin := pkB_inS hp
    obtain ⟨x, hx⟩ : ∃ x : Ix (g.n * g.len 0), (x.1 : Int) = i := ⟨⟨i.toNat, by have := hin.2; omega⟩, by have := hin.2; show ((i.toNat : Nat) : Int) = i; omega⟩
    subst hx
    have hval := hin.1
    have hr := keyV_range (fun a ha => flat_okW hval ha) x
    have hz := flat_okW hval x.2
    have HA := Lib.hid (show g.prV (x.1 : Int) = g.flat x.1 - g.kyV (x.1 : Int) by unfold G.prV; rw [if_pos hp]; rfl)
    rw [← G.kyV_yes hval hp] at hr
    have HHT := Lib.hid (fun (W : World) (hW : RdM lo hi W v g) => l2Height_any v lo hi g x.1 W hW hval x.2)
    have HV := Lib.hid hv
    obtain ⟨k, ek⟩ : ∃ k, g.kyV (x.1 : Int) = k := ⟨_, rfl⟩
    rw [ek] at HK HA hr
    obtain ⟨z, ez⟩ : ∃ z, g.flat x.1 = z := ⟨_, rfl⟩
    rw [ez] at HHT HA hz
    obtain ⟨hr1, hr2⟩ := hr
    obtain ⟨hz1, hz2⟩ := hz
    obtain ⟨xx, exx⟩ : ∃ a, x.1 = a := ⟨_, rfl⟩
    rw [exx] at HK HHT HA ⊢
    have hk0 : ¬ k < 0 := by omega
    clear hv hp hin hval ek ez exx
    go_enter Try.func31, Try.ntmps31
    go_wp2_with fail
    refine HK.out.mono ?_
    rintro e w1 ⟨rfl, hb1⟩
    have HB1 := Lib.hid hb1
    have HH1 := Lib.hid (HHT.out w1 (HV.out.same (SameIn.below hb1 hh)))
    clear hb1
    go_wp2_with fail
    refine HH1.out.mono ?_
    rintro e w2 ⟨rfl, m, rfl⟩
    go_wp2
    go_ret
    exact ⟨ret_int HA.out.symm, below_drewN HB1.out m⟩

end Go.Proofs.Ytcfeckpbjdipeaa

/- The pass from a cell to those of a kind, in the program. -/
namespace Go.Proofs.Ytcfeckpbjdipeaa
open Go.RowKit Go.Shelf
set_option linter.unusedVariables false
attribute [local go_sem] Oper.semAt_some

theorem Vis.found {R C : Nat} {Z : Nat → Int} {st : Ix (R * C)} {wt : Ix (R * C) → Bool} {L : List (Ix (R * C) × Int)} {x : Ix (R * C) × Int} (h : Vis R C Z st (L ++ [x])) (hx : wt x.1 = true) (hL : ∀ e ∈ L, wt e.1 = false) : PsTo R C Z st wt x.2 := by
  have hm : x ∈ L ++ [x] := by simp
  refine Or.inl ⟨x.1, hx, h.ok x hm, fun y q hy hq => ?_⟩
  by_cases e : y ∈ (L ++ [x]).map Prod.fst
  · obtain ⟨e1, he, e2⟩ := List.mem_map.1 e
    rcases List.mem_append.1 he with k | k
    · have := hL e1 k
      rw [e2, hy] at this
      cases this
    · rw [List.mem_singleton] at k
      subst k
      subst e2
      have := hq.eq (h.ok e1 hm)
      omega
  · exact h.ub y e q hq.1 x hm
theorem Vis.none {R C : Nat} {Z : Nat → Int} {st : Ix (R * C)} {wt : Ix (R * C) → Bool} {L : List (Ix (R * C) × Int)} (h : Vis R C Z st L) (ha : AllIn L) (hL : ∀ e ∈ L, wt e.1 = false) : PsTo R C Z st wt ((L.getLast?.map Prod.snd).getD 0) := by
  have hne : L ≠ [] := fun e => by
    have := ha st
    rw [e] at this
    simp at this
  obtain ⟨L', x, rfl⟩ : ∃ L' x, L = L' ++ [x] := ⟨L.dropLast, L.getLast hne, (List.dropLast_concat_getLast hne).symm⟩
  have hlow : ∀ e ∈ L' ++ [x], x.2 ≤ e.2 := fun e he => by
    rcases List.mem_append.1 he with k | k
    · have := List.pairwise_append.1 h.mono
      exact this.2.2 e k x (by simp)
    · rw [List.mem_singleton] at k
      subst k
      exact Int.le_refl _
  have hfor : ∀ y : Ix (R * C), ∃ e ∈ L' ++ [x], e.1 = y := fun y => by
    obtain ⟨e, he, e2⟩ := List.mem_map.1 (ha y)
    exact ⟨e, he, e2⟩
  refine Or.inr ⟨fun y => ?_, fun y => ?_, fun q hq => ?_⟩
  · obtain ⟨e, he, rfl⟩ := hfor y
    exact hL e he
  · obtain ⟨e, he, rfl⟩ := hfor y
    have h1 := hlow e he
    have h2 := (h.ok e he).1.lst
    simp
    omega
  · have := (h.ok x (by simp)).2 q (rch_all (fun a ha => hq ⟨a, ha⟩) st x.1)
    simpa using this

theorem passes_any (R C gg cap cnt k : Nat) (w : World) :
    Calls Try.prog 127 #[.agg #[.int .i64 R, .int .i64 C, .slice (some ⟨gg, 0, none⟩) cnt cap], .int .i64 k] w (fun e w' => e = .returned (.func (.func 132) #[] #[.pointer (some ⟨w.heap.size, 0, none⟩), .pointer (some ⟨w.heap.size + 1, 0, none⟩)]) ∧
      w' = (w.alloc (.cells #[.int .i64 R, .int .i64 C, .slice (some ⟨gg, 0, none⟩) cnt cap] 50)).alloc (.cells #[.int .i64 k] 3)) := by
  go_enter Try.func127, Try.ntmps127
  go_wp2
  go_ret
  exact ⟨rfl, rfl⟩

set_option maxRecDepth 100000 in
set_option maxHeartbeats 8000000 in
theorem passTo_any (R C gg cap cnt : Nat) (hR : R ≤ 7) (hC : C ≤ 7) (Z : Nat → Int) (hZ : ∀ x, x < R * C → 0 ≤ Z x ∧ Z x ≤ 99) (st : Ix (R * C)) (fw : Nat) (caps : Array Value) (wt : Ix (R * C) → Bool) (w : World) (h : Rv w R C cnt gg cap Z)
    (hcf : ∀ (args : Array Value) (W : World), Sem.run Try.prog (callFunc fw args) W = .ok (.enter fw args) W)
    (hf : ∀ (x : Ix (R * C)) (W : World), Below w.heap.size w W → Calls Try.prog fw (#[.agg #[.int .i64 (Z x.1), .int .i64 x.1]] ++ caps) W (BlPost (wt x) W)) :
    Calls Try.prog 104 #[.agg #[.int .i64 R, .int .i64 C, .slice (some ⟨gg, 0, none⟩) cnt cap], .int .i64 st.1, .func (.func fw) #[] caps] w (fun e w' => ∃ v, e = .returned (.int .i64 v) ∧ PsTo R C Z st wt v ∧ Below w.heap.size w w') := by
  have H := Lib.hid h
  have HZ := Lib.hid hZ
  have HF := Lib.hid hf
  have hgl : gg < w.heap.size := h.lt
  clear h hZ hf
  refine (callsIn_wide (n := 8)).1 ?_
  refine callsIn_of_wp_marks Try.func104 rfl trivial ?_ rfl
  simp only [Try.ntmps104, List.size_toArray, List.length_cons, List.length_nil, Nat.reduceAdd, Nat.reduceSub, Array.replicate_succ, Array.replicate_zero, List.push_toArray, List.append_toArray, List.nil_append, List.cons_append]
  gi_wp2_with (refine ⟨trivial, ?_⟩; gi_at_call 127; refine (callsIn_wide.2 (passes_any R C gg cap cnt st.1 _)).mono ?_; rintro e w' ⟨rfl, rfl⟩)
  obtain ⟨k1, k2, k3, k4, k5, ksz, kb⟩ := five_allocs w (.cells #[.int .i64 R, .int .i64 C, .slice (some ⟨gg, 0, none⟩) cnt cap] 50) (.cells #[(.func (.func fw) #[] caps)] 98) (.cells #[.int .i64 0] 3) (.cells #[.int .i64 R, .int .i64 C, .slice (some ⟨gg, 0, none⟩) cnt cap] 50) (.cells #[.int .i64 st.1] 3)
  generalize hW0 : ((((w.alloc (.cells #[.int .i64 R, .int .i64 C, .slice (some ⟨gg, 0, none⟩) cnt cap] 50)).alloc (.cells #[(.func (.func fw) #[] caps)] 98)).alloc (.cells #[.int .i64 0] 3)).alloc (.cells #[.int .i64 R, .int .i64 C, .slice (some ⟨gg, 0, none⟩) cnt cap] 50)).alloc (.cells #[.int .i64 st.1] 3) = W0 at k1 k2 k3 k4 k5 ksz kb ⊢
  clear hW0
  have HK2 := Lib.hid k2
  have HK3 := Lib.hid k3
  have HKB := Lib.hid kb
  refine wpIn_stop (n := 8) (gf := 132) (lb := #[.pointer (some ⟨w.heap.size + 1 + 1 + 1, 0, none⟩), .pointer (some ⟨w.heap.size + 1 + 1 + 1 + 1, 0, none⟩)])
    (passes_stop 7 (by omega) (w.heap.size + 1 + 1 + 1) (w.heap.size + 1 + 1 + 1 + 1) R C gg cap cnt hR hC Z HZ.out st W0 (by omega) (by omega) k4 (one_cell k5) (H.out.keep kb (Nat.le_refl _))) rfl (by omega) rfl trivial (enters_of Try.func132 (by kernel_rfl) rfl)
    KqP.trans (fun s W l o' hl hs => ⟨(below_put (B := 0) W l o' (Nat.zero_le _)).size, fun k hk hlt => World.putObj_heap_other (by omega)⟩) (Below.refl _ _) (fun _ => rfl)
    (fun pre X => (((∀ e ∈ pre, wt e.1 = false) ∧ X.heap[w.heap.size + 1 + 1]? = some (.cells #[.int .i64 ((pre.getLast?.map Prod.snd).getD 0)] 3 (0, 0))) ∧ X.heap[w.heap.size + 1]? = some (.cells #[(.func (.func fw) #[] caps)] 98 (0, 0))) ∧ Below w.heap.size w X)
    (fun c pre X => (c = .exit 0 ∧ ∃ pre' x, pre = pre' ++ [x] ∧ wt x.1 = true ∧ (∀ e ∈ pre', wt e.1 = false) ∧ X.heap[w.heap.size + 1 + 1]? = some (.cells #[.int .i64 x.2] 3 (0, 0))) ∧ Below w.heap.size w X)
    (fun s X Y hs hl hb => ⟨⟨⟨hs.1.1.1, (hb.block _ (by omega)).trans hs.1.1.2⟩, (hb.block _ (by omega)).trans hs.1.2⟩, hs.2.trans (hb.mono (by omega))⟩)
    (fun c s X Y hs hl hb => by
      obtain ⟨⟨h1, pre', x, h2, h3, h4, h5⟩, h6⟩ := hs
      exact ⟨⟨h1, pre', x, h2, h3, h4, (hb.block _ (by omega)).trans h5⟩, h6.trans (hb.mono (by omega))⟩)
    ⟨⟨⟨fun e h => by simp at h, k3⟩, k2⟩, kb⟩
    (fun x X => { tmps := #[.agg #[.int .i64 R, .int .i64 C, .slice (some ⟨gg, 0, none⟩) cnt cap], .int .i64 st.1, (.func (.func fw) #[] caps), .pointer (some ⟨w.heap.size, 0, none⟩), undef, .pointer (some ⟨w.heap.size + 1, 0, none⟩), .int .i64 0, .pointer (some ⟨w.heap.size + 1 + 1, 0, none⟩), .pointer (some ⟨X.heap.size, 0, none⟩), .int .i64 x.2, .agg #[.int .i64 R, .int .i64 C, .slice (some ⟨gg, 0, none⟩) cnt cap], .int .i64 st.1, (.func (.func 132) #[] #[.pointer (some ⟨w.heap.size + 1 + 1 + 1, 0, none⟩), .pointer (some ⟨w.heap.size + 1 + 1 + 1 + 1, 0, none⟩)]), .agg #[.int .i64 (Z x.1.1), .int .i64 x.1.1], .int .i64 x.2, undef, undef, undef, undef, undef], defers := [] })
    (fun x X Y => Y.heap[X.heap.size]? = some (.cells #[.int .i64 (Z x.1.1), .int .i64 x.1.1] 93 (0, 0)))
    (fun x X Y l o' h1 h2 h3 h4 => (World.putObj_heap_other (by omega)).trans h4) (fun s X Y h => KqP.of_below h) ?assign ?body ?done ?stop
  case assign =>
    intro l x X K hK
    simp only [psEnc]
    gi_wp2
    exact hK _ ((Below.refl X.heap.size X).alloc (Nat.le_refl _) _) (heap_alloc_new X _)
  case body =>
    rintro l pre x X0 X ⟨⟨⟨hp, hl⟩, hfu⟩, hb⟩ hA hs0 hsX hlen
    have cl := one_cell hl
    have fl : X.frozen? ⟨w.heap.size + 1 + 1, 0, none⟩ = false := by simp [World.frozen?, hl]
    have HP := Lib.hid hp
    have HB := Lib.hid hb
    have HL := Lib.hid (by simpa using heap_setCell_same X (w.heap.size + 1 + 1) 0 _ _ (.int .i64 x.2) hl : (X.setCell ⟨w.heap.size + 1 + 1, 0, none⟩ (.int .i64 x.2)).heap[w.heap.size + 1 + 1]? = some (.cells #[.int .i64 x.2] 3 (0, 0)))
    have hfu2 := (Below.heap_setCell X ⟨w.heap.size + 1 + 1, 0, none⟩ (.int .i64 x.2) (w.heap.size + 1) (by simp)).trans hfu
    have HFU := Lib.hid hfu2
    have cf := one_cell hfu2
    obtain ⟨s0, s1, _, _⟩ := cells2P ((Below.heap_setCell X ⟨w.heap.size + 1 + 1, 0, none⟩ (.int .i64 x.2) X0.heap.size (by simp; omega)).trans hA)
    have HB2 := Lib.hid (hb.setCell (p := ⟨w.heap.size + 1 + 1, 0, none⟩) (show w.heap.size ≤ w.heap.size + 1 + 1 by omega) (.int .i64 x.2))
    have HCALL := Lib.hid (HF.out x.1 _ HB2.out)
    clear hp hl hfu hb hA hfu2
    gi_wp2_with fail
    refine ⟨trivial, ((callsIn_wide.2 HCALL.out).inRound l).mono ?_⟩
    rintro e X2 ⟨rfl, hb2⟩
    have BX := Lib.hid hb2
    have hsz : (X.setCell ⟨w.heap.size + 1 + 1, 0, none⟩ (.int .i64 x.2)).heap.size = X.heap.size := by simp [World.setCell]
    have hz2 := hb2.size
    rw [hsz] at hz2
    have KO := Lib.hid ((KeepsOthers.setCell X ⟨w.heap.size + 1 + 1, 0, none⟩ (.int .i64 x.2)).trans (others_below hb2))
    have KL := Lib.hid ((hb2.block _ (by omega)).trans HL.out)
    have KF := Lib.hid ((hb2.block (w.heap.size + 1) (by omega)).trans HFU.out)
    have KB := Lib.hid (HB2.out.trans (hb2.mono (by have := HB2.out.size; omega)))
    have KP := Lib.hid (show KqP (w.heap.size + 1 + 1 + 1) gg (W0.heap.size + 2) X X2 from ⟨hz2, fun k hk hlt => (hb2.block k (by omega)).trans (Below.heap_setCell _ _ _ _ (by simp; omega))⟩)
    clear hb2 cl fl cf s0 s1
    obtain ⟨b, eb⟩ : ∃ b, wt x.1 = b := ⟨_, rfl⟩
    have EB := Lib.hid eb
    rw [eb]
    clear eb
    cases b
    case false =>
      gi_wp2
      refine ⟨KO.out, KP.out, ⟨⟨fun e he => ?_, ?_⟩, KF.out⟩, KB.out⟩
      · rcases List.mem_append.1 he with k | k
        · exact HP.out e k
        · rw [List.mem_singleton] at k; subst k; exact EB.out
      · simpa using KL.out
    case true =>
      gi_wp2
      exact ⟨KO.out, ⟨rfl, pre, x, rfl, EB.out, HP.out, KL.out⟩, KB.out⟩
  case done =>
    rintro D ys X hD ⟨hv, hall⟩ ⟨⟨⟨hp, hl⟩, hfu⟩, hb⟩ hKD
    have HR := Lib.hid (hv.none hall hp)
    have HCO := Lib.hid ((Coll.nil (B := w.heap.size) (N := w.heap.size) (W := X)).cons (by omega) (by omega) hKD)
    have HB := Lib.hid hb
    obtain ⟨v, ev⟩ : ∃ v, (ys.getLast?.map Prod.snd).getD 0 = v := ⟨_, rfl⟩
    rw [ev] at HR hl
    have cl := one_cell hl
    clear hv hall hp hl hfu hb hKD ev
    gi_wp2
    exact HCO.out.leaves (fun W => results_tmp rfl _ _ _) (fun W' hS => ⟨v, rfl, HR.out, HB.out.trans hS.below⟩)
  case stop =>
    rintro D c pre X hD hv ⟨⟨rfl, pre', x, rfl, hx, hp, hl⟩, hb⟩ hKD
    have HR := Lib.hid (hv.found hx hp)
    have HCO := Lib.hid ((Coll.nil (B := w.heap.size) (N := w.heap.size) (W := X)).cons (by omega) (by omega) hKD)
    have HB := Lib.hid hb
    have cl := one_cell hl
    clear hv hp hl hb hKD hx
    gi_wp2
    exact HCO.out.leaves (fun W => results_tmp rfl _ _ _) (fun W' hS => ⟨x.2, rfl, HR.out, HB.out.trans hS.below⟩)

end Go.Proofs.Ytcfeckpbjdipeaa

/- Keys and prominences of the program. -/
namespace Go.Proofs.Ytcfeckpbjdipeaa
open Go.RowKit
set_option linter.unusedVariables false

theorem callFunc_key : ∀ (args : Array Value) (W : World), Sem.run Try.prog (callFunc 106 args) W = .ok (.enter 106 args) W := fun _ _ => by kernel_rfl

set_option maxHeartbeats 2000000 in
set_option maxRecDepth 20000 in
theorem clos_key (R C n gg cap A B : Nat) (Z : Nat → Int) (x i : Nat) (W : World) (h0 : W.cell? ⟨A, 0, none⟩ = some (.int .i64 R)) (h1 : W.cell? ⟨A, 1, none⟩ = some (.int .i64 C)) (h2 : W.cell? ⟨A, 2, none⟩ = some (.slice (some ⟨gg, 0, none⟩) n cap))
    (h3 : W.cell? ⟨B, 0, none⟩ = some (.int .i64 i)) (hA : A < W.heap.size) (hB : B < W.heap.size)
    (hr : Rv W R C n gg cap Z) (hi : i < n) (hn : n ≤ 1000) :
    Calls Try.prog 106 #[.agg #[.int .i64 (Z x), .int .i64 x], .pointer (some ⟨A, 0, none⟩), .pointer (some ⟨B, 0, none⟩)] W (BlPost (hiB Z x i) W) := by
  have hb0 := (Below.refl W.heap.size W).alloc (Nat.le_refl _) (.cells #[.int .i64 (Z x), .int .i64 x] 93)
  have HS := Lib.hid (spot_any R C gg cap n Z i (W.alloc (.cells #[.int .i64 (Z x), .int .i64 x] 93)).drew (hr.keep hb0.drew (Nat.le_refl _)) hi hn)
  have HAB := Lib.hid (fun U => show Calls Try.prog 107 #[.agg #[.int .i64 (Z x), .int .i64 x], .agg #[.int .i64 (Z i), .int .i64 i]] U (BlPost (hiB Z x i) U) from above_any _ _ _ _ U)
  obtain ⟨t, et⟩ : ∃ t, hiB Z x i = t := ⟨_, rfl⟩
  rw [et] at HAB ⊢
  obtain ⟨zx, ezx⟩ : ∃ t, Z x = t := ⟨_, rfl⟩
  rw [ezx] at HAB hb0 HS ⊢
  obtain ⟨zi, ezi⟩ : ∃ t, Z i = t := ⟨_, rfl⟩
  rw [ezi] at HAB HS
  have HB0 := Lib.hid hb0
  obtain ⟨d0, d1, _, _⟩ := cells2P (heap_alloc_new W (.cells #[.int .i64 zx, .int .i64 x] 93))
  have hs0 : (W.alloc (.cells #[.int .i64 zx, .int .i64 x] 93)).heap.size = W.heap.size + 1 := by simp
  have c0 := (hb0.cell (p := ⟨A, 0, none⟩) hA).trans h0
  have c1 := (hb0.cell (p := ⟨A, 1, none⟩) hA).trans h1
  have c2 := (hb0.cell (p := ⟨A, 2, none⟩) hA).trans h2
  have c3 := (hb0.cell (p := ⟨B, 0, none⟩) hB).trans h3
  have HI := Lib.hid (show (W.alloc (.cells #[.int .i64 zx, .int .i64 x] 93)).drew.cell? ⟨A, 0, none⟩ = some (.int .i64 R) ∧ (W.alloc (.cells #[.int .i64 zx, .int .i64 x] 93)).drew.cell? ⟨A, 1, none⟩ = some (.int .i64 C) ∧ (W.alloc (.cells #[.int .i64 zx, .int .i64 x] 93)).drew.cell? ⟨A, 2, none⟩ = some (.slice (some ⟨gg, 0, none⟩) n cap) ∧ (W.alloc (.cells #[.int .i64 zx, .int .i64 x] 93)).drew.cell? ⟨B, 0, none⟩ = some (.int .i64 i) ∧ (W.alloc (.cells #[.int .i64 zx, .int .i64 x] 93)).drew.cell? ⟨W.heap.size, 0, none⟩ = some (.int .i64 zx) ∧ (W.alloc (.cells #[.int .i64 zx, .int .i64 x] 93)).drew.cell? ⟨W.heap.size, 1, none⟩ = some (.int .i64 x) from ⟨c0, c1, c2, c3, d0, d1⟩)
  have HKP := Lib.hid (fun (U V : World) (h : Below U.heap.size U V) (hs : W.heap.size + 1 ≤ U.heap.size) (k : U.cell? ⟨A, 0, none⟩ = some (.int .i64 R) ∧ U.cell? ⟨A, 1, none⟩ = some (.int .i64 C) ∧ U.cell? ⟨A, 2, none⟩ = some (.slice (some ⟨gg, 0, none⟩) n cap) ∧ U.cell? ⟨B, 0, none⟩ = some (.int .i64 i) ∧ U.cell? ⟨W.heap.size, 0, none⟩ = some (.int .i64 zx) ∧ U.cell? ⟨W.heap.size, 1, none⟩ = some (.int .i64 x)) => (show V.cell? ⟨A, 0, none⟩ = some (.int .i64 R) ∧ V.cell? ⟨A, 1, none⟩ = some (.int .i64 C) ∧ V.cell? ⟨A, 2, none⟩ = some (.slice (some ⟨gg, 0, none⟩) n cap) ∧ V.cell? ⟨B, 0, none⟩ = some (.int .i64 i) ∧ V.cell? ⟨W.heap.size, 0, none⟩ = some (.int .i64 zx) ∧ V.cell? ⟨W.heap.size, 1, none⟩ = some (.int .i64 x) from
    ⟨(h.cell (p := ⟨A, 0, none⟩) (by show A < _; omega)).trans k.1, (h.cell (p := ⟨A, 1, none⟩) (by show A < _; omega)).trans k.2.1, (h.cell (p := ⟨A, 2, none⟩) (by show A < _; omega)).trans k.2.2.1, (h.cell (p := ⟨B, 0, none⟩) (by show B < _; omega)).trans k.2.2.2.1, (h.cell (p := ⟨W.heap.size, 0, none⟩) (by show W.heap.size < _; omega)).trans k.2.2.2.2.1, (h.cell (p := ⟨W.heap.size, 1, none⟩) (by show W.heap.size < _; omega)).trans k.2.2.2.2.2⟩))
  clear hr et ezx ezi hb0 c0 c1 c2 c3 d0 d1 h0 h1 h2 h3
  go_enter Try.func106, Try.ntmps106
  go_wp2_with fail
  go_region_held3 (fun w' => w'.cell? ⟨A, 0, none⟩ = some (.int .i64 R) ∧ w'.cell? ⟨A, 1, none⟩ = some (.int .i64 C) ∧ w'.cell? ⟨A, 2, none⟩ = some (.slice (some ⟨gg, 0, none⟩) n cap) ∧ w'.cell? ⟨B, 0, none⟩ = some (.int .i64 i) ∧ w'.cell? ⟨W.heap.size, 0, none⟩ = some (.int .i64 zx) ∧ w'.cell? ⟨W.heap.size, 1, none⟩ = some (.int .i64 x))
    (first | exact HI.out | exact s4 | exact s5)
    (first | (go_at_call 101; refine HS.out.mono ?_; rintro e w2 ⟨rfl, hb1⟩; have hb2 := hb1.undrew; have hs2 := hb2.size; have s4 := HKP.out _ w2 hb2 (by omega) HI.out; have HB2 := Lib.hid (HB0.out.trans (hb2.mono (by omega))); clear hb1 hb2) | (go_at_call 107; refine (HAB.out _).mono ?_; rintro e w3 ⟨rfl, hb3⟩; have s5 := HKP.out _ w3 hb3 (by omega) s4; have HB3 := Lib.hid (HB2.out.trans (hb3.mono HB2.out.size)); clear hb3))
  all_goals go_wp2
  all_goals go_ret
  all_goals exact ⟨rfl, HB3.out⟩

set_option maxHeartbeats 2000000 in
set_option maxRecDepth 20000 in
theorem key_any (R C gg cap cnt : Nat) (hR : R ≤ 7) (hC : C ≤ 7) (Z : Nat → Int) (hZ : ∀ x, x < R * C → 0 ≤ Z x ∧ Z x ≤ 99) (i : Ix (R * C)) (w : World) (h : Rv w R C cnt gg cap Z) :
    Calls Try.prog 65 #[.agg #[.int .i64 R, .int .i64 C, .slice (some ⟨gg, 0, none⟩) cnt cap], .int .i64 i.1] w (IntPost (keyV R C Z i) w) := by
  have hn49 : cnt ≤ 49 := by rw [h.n_eq]; exact mul_le_49 hR hC
  have hic : i.1 < cnt := by rw [h.n_eq]; exact i.2
  obtain ⟨W0, hW0⟩ : ∃ W0, W0 = (w.alloc (.cells #[.int .i64 R, .int .i64 C, .slice (some ⟨gg, 0, none⟩) cnt cap] 50)).alloc (.cells #[.int .i64 i.1] 3) := ⟨_, rfl⟩
  have hs0 : W0.heap.size = w.heap.size + 2 := by rw [hW0]; simp
  have hb0 : Below w.heap.size w W0 := by rw [hW0]; exact ((Below.refl _ _).alloc (Nat.le_refl _) _).alloc (by simp) _
  have hbox : W0.heap[w.heap.size]? = some (.cells #[.int .i64 R, .int .i64 C, .slice (some ⟨gg, 0, none⟩) cnt cap] 50 (0, 0)) := by rw [hW0]; exact heap_alloc2_old _ _ _
  have hkb : W0.heap[w.heap.size + 1]? = some (.cells #[.int .i64 i.1] 3 (0, 0)) := by rw [hW0]; exact heap_alloc2_new _ _ _
  have h0 := h.keep hb0 (Nat.le_refl _)
  have HC := Lib.hid (show Calls Try.prog 104 #[.agg #[.int .i64 R, .int .i64 C, .slice (some ⟨gg, 0, none⟩) cnt cap], .int .i64 i.1, .func (.func 106) #[] #[.pointer (some ⟨w.heap.size, 0, none⟩), .pointer (some ⟨w.heap.size + 1, 0, none⟩)]] W0 (IntPost (keyV R C Z i) W0) from
    (passTo_any R C gg cap cnt hR hC Z hZ i 106 #[.pointer (some ⟨w.heap.size, 0, none⟩), .pointer (some ⟨w.heap.size + 1, 0, none⟩)] (fun x => hiB Z x.1 i.1) W0 h0 callFunc_key (fun x W hbel => by
      obtain ⟨k0, k1, k2, _, _, _⟩ := cells3 ((hbel.block _ (by omega)).trans hbox)
      have kk := cell_of_one ((hbel.block _ (by omega)).trans hkb)
      have hsz := hbel.size
      exact clos_key R C cnt gg cap w.heap.size (w.heap.size + 1) Z x.1 i.1 W k0 k1 k2 kk (by omega) (by omega) (h0.keep hbel (Nat.le_refl _)) hic (by omega))).mono (by
        rintro e w' ⟨v, rfl, hv, hb⟩
        exact ⟨by rw [hv.eq (keyV_is hZ i)], hb⟩))
  have HB0 := Lib.hid hb0
  have HS0 := Lib.hid hs0
  rw [hW0] at HC HB0 HS0
  obtain ⟨q, eq⟩ : ∃ q, keyV R C Z i = q := ⟨_, rfl⟩
  rw [eq] at HC ⊢
  clear h hZ h0 hbox hkb hb0 hs0 hW0 eq W0
  go_enter Try.func65, Try.ntmps65
  go_wp2_with fail
  refine HC.out.mono ?_
  rintro e w2 ⟨rfl, hb2⟩
  have HB2 := Lib.hid (HB0.out.trans (hb2.mono (by rw [HS0.out]; omega)))
  clear hb2
  go_wp2
  go_ret
  exact ⟨rfl, HB2.out⟩

set_option maxHeartbeats 2000000 in
set_option maxRecDepth 20000 in
theorem prominence_any (R C gg cap cnt : Nat) (hR : R ≤ 7) (hC : C ≤ 7) (Z : Nat → Int) (hZ : ∀ x, x < R * C → 0 ≤ Z x ∧ Z x ≤ 99) (i : Ix (R * C)) (w : World) (h : Rv w R C cnt gg cap Z) :
    Calls Try.prog 70 #[.agg #[.int .i64 R, .int .i64 C, .slice (some ⟨gg, 0, none⟩) cnt cap], .int .i64 i.1] w (IntPost (Z i.1 - keyV R C Z i) w) := by
  have hn49 : cnt ≤ 49 := by rw [h.n_eq]; exact mul_le_49 hR hC
  have hic : i.1 < cnt := by rw [h.n_eq]; exact i.2
  have hgl := h.lt
  have hle := h.le
  have HZI := Lib.hid (fun (U : World) (hU : Below w.heap.size w U) => show U.cell? ⟨gg, i.1, none⟩ = some (.int .i64 (Z i.1)) from (hU.cell (p := ⟨gg, i.1, none⟩) hgl).trans (h.cell i.1 hic))
  have HK := Lib.hid (fun (U : World) (hU : Below w.heap.size w U) => key_any R C gg cap cnt hR hC Z hZ i U (h.keep hU (Nat.le_refl _)))
  obtain ⟨hk1, hk2⟩ := keyV_range hZ i
  obtain ⟨hz1, hz2⟩ := hZ i.1 i.2
  obtain ⟨q, eq⟩ : ∃ q, keyV R C Z i = q := ⟨_, rfl⟩
  rw [eq] at HK hk1 hk2 ⊢
  obtain ⟨z, ez⟩ : ∃ q, Z i.1 = q := ⟨_, rfl⟩
  rw [ez] at HZI hz1 hz2 ⊢
  obtain ⟨x, ex⟩ : ∃ q, i.1 = q := ⟨_, rfl⟩
  rw [ex] at HZI hic HK ⊢
  have hb0 := (Below.refl w.heap.size w).alloc (Nat.le_refl _) (.cells #[.int .i64 R, .int .i64 C, .slice (some ⟨gg, 0, none⟩) cnt cap] 50)
  have HB0 := Lib.hid hb0
  obtain ⟨d0, d1, d2, _, _, _⟩ := cells3 (heap_alloc_new w (.cells #[.int .i64 R, .int .i64 C, .slice (some ⟨gg, 0, none⟩) cnt cap] 50))
  have hcz := HZI.out _ hb0
  have hs0 : (w.alloc (.cells #[.int .i64 R, .int .i64 C, .slice (some ⟨gg, 0, none⟩) cnt cap] 50)).heap.size = w.heap.size + 1 := by simp
  have hw : IntKind.i64.wrap (z - q) = z - q := IntWalk.i64_in _ (by omega)
  have hxc : (x : Int) < cnt := by omega
  have HI := Lib.hid (show (w.alloc (.cells #[.int .i64 R, .int .i64 C, .slice (some ⟨gg, 0, none⟩) cnt cap] 50)).drew.cell? ⟨w.heap.size, 0, none⟩ = some (.int .i64 R) ∧ (w.alloc (.cells #[.int .i64 R, .int .i64 C, .slice (some ⟨gg, 0, none⟩) cnt cap] 50)).drew.cell? ⟨w.heap.size, 1, none⟩ = some (.int .i64 C) ∧ (w.alloc (.cells #[.int .i64 R, .int .i64 C, .slice (some ⟨gg, 0, none⟩) cnt cap] 50)).drew.cell? ⟨w.heap.size, 2, none⟩ = some (.slice (some ⟨gg, 0, none⟩) cnt cap) ∧ (w.alloc (.cells #[.int .i64 R, .int .i64 C, .slice (some ⟨gg, 0, none⟩) cnt cap] 50)).drew.cell? ⟨gg, x, none⟩ = some (.int .i64 z) from ⟨d0, d1, d2, hcz⟩)
  have HKP := Lib.hid (fun (V : World) (h : Below ((w.alloc (.cells #[.int .i64 R, .int .i64 C, .slice (some ⟨gg, 0, none⟩) cnt cap] 50)).drew).heap.size ((w.alloc (.cells #[.int .i64 R, .int .i64 C, .slice (some ⟨gg, 0, none⟩) cnt cap] 50)).drew) V) => (show V.cell? ⟨w.heap.size, 0, none⟩ = some (.int .i64 R) ∧ V.cell? ⟨w.heap.size, 1, none⟩ = some (.int .i64 C) ∧ V.cell? ⟨w.heap.size, 2, none⟩ = some (.slice (some ⟨gg, 0, none⟩) cnt cap) ∧ V.cell? ⟨gg, x, none⟩ = some (.int .i64 z) from
    ⟨(h.cell (p := ⟨w.heap.size, 0, none⟩) (by show w.heap.size < (w.alloc _).heap.size; simp)).trans d0, (h.cell (p := ⟨w.heap.size, 1, none⟩) (by show w.heap.size < (w.alloc _).heap.size; simp)).trans d1, (h.cell (p := ⟨w.heap.size, 2, none⟩) (by show w.heap.size < (w.alloc _).heap.size; simp)).trans d2, (h.cell (p := ⟨gg, x, none⟩) (by show gg < (w.alloc _).heap.size; simp; omega)).trans hcz⟩))
  clear d0 d1 d2 hcz h hZ eq ez ex hb0
  go_enter Try.func70, Try.ntmps70
  go_wp2_with fail
  go_region_held3 (fun w' => w'.cell? ⟨w.heap.size, 0, none⟩ = some (.int .i64 R) ∧ w'.cell? ⟨w.heap.size, 1, none⟩ = some (.int .i64 C) ∧ w'.cell? ⟨w.heap.size, 2, none⟩ = some (.slice (some ⟨gg, 0, none⟩) cnt cap) ∧ w'.cell? ⟨gg, x, none⟩ = some (.int .i64 z))
    (first | exact HI.out | exact s4)
    (first | (go_at_call 65; refine (HK.out _ HB0.out.drew).mono ?_; rintro e w2 ⟨rfl, hb2⟩; have s4 := HKP.out w2 hb2; have HB2 := Lib.hid (HB0.out.drew.trans (hb2.mono (show w.heap.size ≤ (w.alloc _).heap.size by simp))); clear hb2))
  all_goals go_wp2
  all_goals go_ret
  all_goals exact ⟨rfl, HB2.out⟩

set_option maxHeartbeats 2000000 in
set_option maxRecDepth 20000 in
theorem implPeakKey_any (v : Value) (lo hi : Nat) (g : G) (i : Int) (w : World) (hv : RdM lo hi w v g) (hh : hi ≤ w.heap.size) :
    Calls Try.prog 26 #[v, .int .i64 i] w (IntPost (G.kyV g i) w) := by
  have HC := Lib.hid (reliefOfPeak_any v lo hi g i w hv hh)
  clear hv
  by_cases h : g.pkB i = true
  · have HC2 := Lib.hid (HC.out.mono (fun e w' k => k.1 h))
    have hin := pkB_in h
    have hval := hin.1
    have h7 := hval.1.2
    have h77 := hval.2.1.2
    obtain ⟨x, hx⟩ : ∃ x : Ix (g.n * g.len 0), (x.1 : Int) = i := ⟨⟨i.toNat, by have := hin.2; omega⟩, by have := hin.2; show ((i.toNat : Nat) : Int) = i; omega⟩
    subst hx
    have HV := Lib.hid (show G.kyV g (x.1 : Int) = keyV g.n (g.len 0) g.flat x by exact G.kyV_yes hval h)
    have HK := Lib.hid (fun (gg cap cnt : Nat) (W : World) (hr : Rv W g.n (g.len 0) cnt gg cap g.flat) => key_any g.n (g.len 0) gg cap cnt h7 h77 g.flat (fun a ha => flat_okW hval ha) x W hr)
    rw [← HV.out] at HK
    obtain ⟨q, eq⟩ : ∃ q, G.kyV g (x.1 : Int) = q := ⟨_, rfl⟩
    rw [eq] at HK ⊢
    obtain ⟨xx, exx⟩ : ∃ q, x.1 = q := ⟨_, rfl⟩
    rw [exx] at HK HC2 ⊢
    clear HC h hin hval HV eq exx
    go_enter Try.func26, Try.ntmps26
    go_wp2_with fail
    refine HC2.out.mono ?_
    rintro e w1 ⟨n, gg, cap, rfl, hrv, _, hb1⟩
    have HB1 := Lib.hid (hb1.alloc hb1.size (.cells #[.int .i64 g.n, .int .i64 (g.len 0), .slice (some ⟨gg, 0, none⟩) n cap] 50))
    have HKC := Lib.hid (HK.out gg cap n _ (hrv.keep ((Below.refl w1.heap.size w1).alloc (Nat.le_refl _) (.cells #[.int .i64 g.n, .int .i64 (g.len 0), .slice (some ⟨gg, 0, none⟩) n cap] 50)) (Nat.le_refl _)))
    obtain ⟨d0, d1, d2, _, _, _⟩ := cells3 (heap_alloc_new w1 (.cells #[.int .i64 g.n, .int .i64 (g.len 0), .slice (some ⟨gg, 0, none⟩) n cap] 50))
    clear hb1 hrv
    go_wp2_with fail
    refine HKC.out.mono ?_
    rintro e w2 ⟨rfl, hb2⟩
    have HB2 := Lib.hid (HB1.out.trans (hb2.mono HB1.out.size))
    clear hb2
    go_wp2
    go_ret
    exact ⟨rfl, HB2.out⟩
  · have HC2 := Lib.hid (HC.out.mono (fun e w' k => k.2 h))
    have h' : g.pkB i = false := by simpa using h
    have HH := Lib.hid (show G.kyV g i = -1 by exact G.kyV_no h')
    clear HC h h'
    go_enter Try.func26, Try.ntmps26
    go_wp2_with fail
    refine HC2.out.mono ?_
    rintro e w1 ⟨rfl, hb1⟩
    have HB1 := Lib.hid (hb1.alloc hb1.size (.cells #[.int .i64 0, .int .i64 0, .slice none 0 0] 50))
    clear hb1
    go_wp2
    go_ret
    exact ⟨ret_int HH.out.symm, HB1.out⟩

set_option maxHeartbeats 2000000 in
set_option maxRecDepth 20000 in
theorem implPeakProminence_any (v : Value) (lo hi : Nat) (g : G) (i : Int) (w : World) (hv : RdM lo hi w v g) (hh : hi ≤ w.heap.size) :
    Calls Try.prog 30 #[v, .int .i64 i] w (IntPost (G.prV g i) w) := by
  have HC := Lib.hid (reliefOfPeak_any v lo hi g i w hv hh)
  clear hv
  by_cases h : g.pkB i = true
  · have HC2 := Lib.hid (HC.out.mono (fun e w' k => k.1 h))
    have hin := pkB_in h
    have hval := hin.1
    have h7 := hval.1.2
    have h77 := hval.2.1.2
    obtain ⟨x, hx⟩ : ∃ x : Ix (g.n * g.len 0), (x.1 : Int) = i := ⟨⟨i.toNat, by have := hin.2; omega⟩, by have := hin.2; show ((i.toNat : Nat) : Int) = i; omega⟩
    subst hx
    have HV := Lib.hid (show G.prV g (x.1 : Int) = g.flat x.1 - keyV g.n (g.len 0) g.flat x by unfold G.prV; rw [if_pos h, G.kyV_yes hval h]; rfl)
    have HK := Lib.hid (fun (gg cap cnt : Nat) (W : World) (hr : Rv W g.n (g.len 0) cnt gg cap g.flat) => prominence_any g.n (g.len 0) gg cap cnt h7 h77 g.flat (fun a ha => flat_okW hval ha) x W hr)
    rw [← HV.out] at HK
    obtain ⟨q, eq⟩ : ∃ q, G.prV g (x.1 : Int) = q := ⟨_, rfl⟩
    rw [eq] at HK ⊢
    obtain ⟨xx, exx⟩ : ∃ q, x.1 = q := ⟨_, rfl⟩
    rw [exx] at HK HC2 ⊢
    clear HC h hin hval HV eq exx
    go_enter Try.func30, Try.ntmps30
    go_wp2_with fail
    refine HC2.out.mono ?_
    rintro e w1 ⟨n, gg, cap, rfl, hrv, _, hb1⟩
    have HB1 := Lib.hid (hb1.alloc hb1.size (.cells #[.int .i64 g.n, .int .i64 (g.len 0), .slice (some ⟨gg, 0, none⟩) n cap] 50))
    have HKC := Lib.hid (HK.out gg cap n _ (hrv.keep ((Below.refl w1.heap.size w1).alloc (Nat.le_refl _) (.cells #[.int .i64 g.n, .int .i64 (g.len 0), .slice (some ⟨gg, 0, none⟩) n cap] 50)) (Nat.le_refl _)))
    obtain ⟨d0, d1, d2, _, _, _⟩ := cells3 (heap_alloc_new w1 (.cells #[.int .i64 g.n, .int .i64 (g.len 0), .slice (some ⟨gg, 0, none⟩) n cap] 50))
    clear hb1 hrv
    go_wp2_with fail
    refine HKC.out.mono ?_
    rintro e w2 ⟨rfl, hb2⟩
    have HB2 := Lib.hid (HB1.out.trans (hb2.mono HB1.out.size))
    clear hb2
    go_wp2
    go_ret
    exact ⟨rfl, HB2.out⟩
  · have HC2 := Lib.hid (HC.out.mono (fun e w' k => k.2 h))
    have h' : g.pkB i = false := by simpa using h
    have HH := Lib.hid (show G.prV g i = -1 by unfold G.prV; rw [if_neg h])
    clear HC h h'
    go_enter Try.func30, Try.ntmps30
    go_wp2_with fail
    refine HC2.out.mono ?_
    rintro e w1 ⟨rfl, hb1⟩
    have HB1 := Lib.hid (hb1.alloc hb1.size (.cells #[.int .i64 0, .int .i64 0, .slice none 0 0] 50))
    clear hb1
    go_wp2
    go_ret
    exact ⟨ret_int HH.out.symm, HB1.out⟩

end Go.Proofs.Ytcfeckpbjdipeaa

/- The sum of the prominences, and the most prominent peaks: what is reckoned, and the model. -/
namespace Go.Proofs.Ytcfeckpbjdipeaa
open Go.RowKit
set_option linter.unusedVariables false

noncomputable def G.smL (g : G) {M : Nat} (l : List (Ix M)) : Int := l.foldl (fun s i => s + g.prV (i.1 : Int)) 0
theorem G.smL_step (g : G) {M : Nat} (l : List (Ix M)) {k : Nat} (h : k < l.length) : g.smL (l.take (k + 1)) = g.smL (l.take k) + g.prV ((l[k]).1 : Int) := by
  unfold G.smL
  rw [List.take_succ_eq_append_getElem h, List.foldl_append]
  rfl
theorem G.prV_range {g : G} (h : g.Valid) (i : Ix (g.n * g.len 0)) : -1 ≤ g.prV (i.1 : Int) ∧ g.prV (i.1 : Int) ≤ 99 := by
  unfold G.prV
  by_cases hp : g.pkB (i.1 : Int) = true
  · rw [if_pos hp, G.kyV_yes h hp]
    have h1 := keyV_range (Z := g.flat) (fun a ha => flat_okW h ha) i
    have h2 := flat_okW h i.2
    have h3 : keyV g.n (g.len 0) g.flat i ≤ g.flat i.1 := by
      have := keyV_is (Z := g.flat) (fun a ha => flat_okW h ha) i
      rcases this with ⟨x, _, hx, _⟩ | ⟨_, hx, _⟩
      · exact hx.1.fst
      · exact hx i
    show -1 ≤ g.flat i.1 - _ ∧ g.flat i.1 - _ ≤ 99
    omega
  · rw [if_neg hp]; omega
theorem G.smL_range {g : G} (h : g.Valid) (l : List (Ix (g.n * g.len 0))) : ∀ k, k ≤ l.length → -(k : Int) ≤ g.smL (l.take k) ∧ g.smL (l.take k) ≤ 99 * k
  | 0, _ => by simp [G.smL]
  | k + 1, hk => by
    have h1 := G.smL_range h l k (by omega)
    have h2 := G.prV_range h (l[k]'(by omega))
    rw [g.smL_step l (by omega)]
    omega
open Classical in
noncomputable def G.smV (g : G) : Int := if g.Valid then g.smL g.rkV else -1
theorem G.smV_yes {g : G} (h : g.Valid) : g.smV = g.smL (g.rkV.take g.rkV.length) := by unfold G.smV; rw [if_pos h, List.take_length]
theorem G.smV_no {g : G} (h : ¬ g.Valid) : g.smV = -1 := by unfold G.smV; rw [if_neg h]

set_option maxHeartbeats 2000000 in
set_option maxRecDepth 100000 in
theorem specPeakSum_any (v : Value) (lo hi : Nat) (g : G) (w : World) (hv : RdM lo hi w v g) (hh : hi ≤ w.heap.size) :
    Calls Try.prog 44 #[v] w (IntPost g.smV w) := by
  have HC := Lib.hid (specValid_any v lo hi g w hv)
  by_cases h : g.Valid
  case neg =>
    have HB := Lib.hid (G.vB_no h)
    have HA := Lib.hid (G.smV_no h)
    clear hv h
    go_enter Try.func44, Try.ntmps44
    go_wp2_with fail
    refine HC.out.mono ?_
    rintro e w1 ⟨rfl, m, rfl⟩
    rw [HB.out]
    go_wp2
    go_ret
    exact ⟨ret_int HA.out.symm, below_drewN (Below.refl _ _) m⟩
  case pos =>
    have HB := Lib.hid (G.vB_yes h)
    have HA := Lib.hid (G.smV_yes h)
    have h49 := mul_le_49 h.1.2 h.2.1.2
    have hlen : g.rkV.length ≤ 49 := by rw [G.rkV_yes h]; have := rkL_len (R := g.n) (C := g.len 0) (Z := g.flat) (k := g.n * g.len 0); omega
    have HPL := Lib.hid (fun (W : World) (hb : Below w.heap.size w W) => specPeakList_any v lo hi g W (hv.same (SameIn.below hb hh)) (Nat.le_trans hh hb.size))
    have HPR := Lib.hid (fun (W : World) (hb : Below w.heap.size w W) (i : Int) => specPeakProminence_any v lo hi g i W (hv.same (SameIn.below hb hh)) (Nat.le_trans hh hb.size))
    have HRG := Lib.hid (fun (k : Nat) (hk : k ≤ g.rkV.length) => G.smL_range h g.rkV k hk)
    have HRP := Lib.hid (G.prV_range h)
    obtain ⟨l, el⟩ : ∃ l, g.rkV = l := ⟨_, rfl⟩
    rw [el] at HA hlen HPL HRG
    clear hv h el
    go_enter Try.func44, Try.ntmps44
    go_wp2_with fail
    refine HC.out.mono ?_
    rintro e w1 ⟨rfl, m, rfl⟩
    rw [HB.out]
    have HB1 := Lib.hid (show Below w.heap.size w (w.drewN m) from below_drewN (Below.refl _ _) m)
    go_wp2_with fail
    refine (HPL.out _ HB1.out).mono ?_
    rintro e w3 ⟨v3, rfl, hl3, hb3⟩
    have HB3 := Lib.hid (HB1.out.trans (hb3.mono HB1.out.size))
    have hl3' := World.ownsRow.mono hl3 HB1.out.size
    obtain ⟨a3, c3, rfl⟩ := Lists.shape hl3
    have HL3 := Lib.hid (show Lists w.heap.size w3 (.slice a3 l.length c3) l from hl3')
    clear hb3 hl3 hl3'
    go_wp2
    go_loopw [3, 5] (fun s k wr => ∃ kk : Nat, kk ≤ l.length ∧ k = .int .i64 kk ∧ s = .int .i64 (g.smL (l.take kk)) ∧ Below w3.heap.size w3 wr) (fun _ k _ => l.length - (intOf k).toNat)
    case atStart => exact ⟨0, Nat.zero_le _, rfl, rfl, Below.refl _ _⟩
    case round =>
      obtain ⟨kk, hk, rfl, rfl, hb⟩ := hrel
      have HBR := Lib.hid hb
      have HB4 := Lib.hid (HB3.out.trans (hb.mono HB3.out.size))
      have hlr := HL3.out.below hb (Nat.le_refl _)
      clear hb
      by_cases hlt : kk < l.length
      · have hlt' : (kk : Int) < l.length := by omega
        obtain ⟨b3, rfl, c1, hc1, hc2⟩ := hlr.atCell hlt
        have hc2' : c3 ≤ 9223372036854775807 := by unfold maxLen at hc2; omega
        have HST := Lib.hid (g.smL_step l hlt)
        obtain ⟨hr1, hr2⟩ := HRG.out (kk + 1) (by omega)
        rw [HST.out] at hr1 hr2
        have hww : IntKind.i64.wrap (g.smL (l.take kk) + g.prV ((l[kk]).1 : Int)) = g.smL (l.take kk) + g.prV ((l[kk]).1 : Int) := IntWalk.i64_in _ (by omega)
        have HPP := Lib.hid (HPR.out wr HB4.out ((l[kk]).1 : Int))
        obtain ⟨x, ex⟩ : ∃ x, (l[kk]).1 = x := ⟨_, rfl⟩
        rw [ex] at c1 HST hww HPP
        obtain ⟨p, ep⟩ : ∃ p, g.prV (x : Int) = p := ⟨_, rfl⟩
        rw [ep] at HST hww HPP
        obtain ⟨s0, es⟩ : ∃ p, g.smL (l.take kk) = p := ⟨_, rfl⟩
        rw [es] at HST hww ⊢
        clear ex ep es hlt hlr hc2 hr1 hr2
        go_wp2_with fail
        refine HPP.out.mono ?_
        rintro e w5 ⟨rfl, hb5⟩
        have HB5 := Lib.hid (HBR.out.trans (hb5.mono HBR.out.size))
        clear hb5 c1
        go_wp2
        go_roundw
        case rel => exact ⟨kk + 1, by omega, by go_num, by rw [HST.out], HB5.out⟩
        case measure => simp [intOf]; omega
      · have hge : ¬ (kk : Int) < l.length := by omega
        have hkk : kk = l.length := by omega
        have HE := Lib.hid (show g.smV = g.smL (l.take kk) by rw [hkk]; exact HA.out)
        obtain ⟨s0, es⟩ : ∃ p, g.smL (l.take kk) = p := ⟨_, rfl⟩
        rw [es] at HE ⊢
        clear es hlr hkk
        go_wp2
        go_ret
        exact ⟨ret_int HE.out.symm, HB4.out⟩

end Go.Proofs.Ytcfeckpbjdipeaa

/- The sum of the prominences in the program. -/
namespace Go.Proofs.Ytcfeckpbjdipeaa
open Go.RowKit
set_option linter.unusedVariables false

theorem prV_mem {g : G} (h : g.Valid) {i : Ix (g.n * g.len 0)} (hi : i ∈ g.rkV) : g.prV (i.1 : Int) = g.flat i.1 - keyV g.n (g.len 0) g.flat i := by
  rw [G.rkV_yes h] at hi
  have hp : g.pkB (i.1 : Int) = true := by rw [G.pkB_yes h]; exact ((rkL_mem (Nat.le_refl _) _).1 hi).2
  unfold G.prV
  rw [if_pos hp, G.kyV_yes h hp]
  rfl

set_option maxHeartbeats 2000000 in
set_option maxRecDepth 100000 in
theorem implPeakSum_any (v : Value) (lo hi : Nat) (g : G) (w : World) (hv : RdM lo hi w v g) (hh : hi ≤ w.heap.size) :
    Calls Try.prog 43 #[v] w (IntPost g.smV w) := by
  by_cases h : g.Valid
  case neg =>
    have HC := Lib.hid (reliefOf_no v lo hi g w hv hh h)
    have HA := Lib.hid (G.smV_no h)
    clear hv h
    go_enter Try.func43, Try.ntmps43
    go_wp2_with fail
    refine HC.out.mono ?_
    rintro e w1 ⟨rfl, hb1⟩
    have HB1 := Lib.hid (hb1.alloc hb1.size (.cells #[.int .i64 0, .int .i64 0, .slice none 0 0] 50))
    clear hb1
    go_wp2
    go_ret
    exact ⟨ret_int HA.out.symm, HB1.out⟩
  case pos =>
    have HC := Lib.hid (reliefOf_yes v lo hi g w hv hh h)
    have HA := Lib.hid (G.smV_yes h)
    have hn7 := h.1.2
    have hl7 := h.2.1.2
    have h49 := mul_le_49 h.1.2 h.2.1.2
    have hlen : g.rkV.length ≤ 49 := by rw [G.rkV_yes h]; have := rkL_len (R := g.n) (C := g.len 0) (Z := g.flat) (k := g.n * g.len 0); omega
    have HRG := Lib.hid (fun (k : Nat) (hk : k ≤ g.rkV.length) => G.smL_range h g.rkV k hk)
    have HPK := Lib.hid (fun (gg cap cnt : Nat) (W : World) (hr : Rv W g.n (g.len 0) cnt gg cap g.flat) => show Calls Try.prog 60 #[.agg #[.int .i64 g.n, .int .i64 (g.len 0), .slice (some ⟨gg, 0, none⟩) cnt cap]] W (LvPost g.rkV W) by
      rw [G.rkV_yes h]; exact peaks_any g.n (g.len 0) gg cap cnt hn7 hl7 g.flat W hr)
    have HPR := Lib.hid (fun (i : Ix (g.n * g.len 0)) (hi : i ∈ g.rkV) (gg cap cnt : Nat) (W : World) (hr : Rv W g.n (g.len 0) cnt gg cap g.flat) => show Calls Try.prog 70 #[.agg #[.int .i64 g.n, .int .i64 (g.len 0), .slice (some ⟨gg, 0, none⟩) cnt cap], .int .i64 i.1] W (IntPost (g.prV (i.1 : Int)) W) by
      rw [prV_mem h hi]; exact prominence_any g.n (g.len 0) gg cap cnt hn7 hl7 g.flat (fun a ha => flat_okW h ha) i W hr)
    obtain ⟨l, el⟩ : ∃ l, g.rkV = l := ⟨_, rfl⟩
    rw [el] at HA hlen HRG HPK HPR
    clear hv h el
    go_enter Try.func43, Try.ntmps43
    go_wp2_with fail
    refine HC.out.mono ?_
    intro e w1 hq
    obtain ⟨n, gg, cap, rfl, hrv, hb1⟩ := hq.rv
    have hb2 := (Below.refl w1.heap.size w1).alloc (Nat.le_refl _) (.cells #[.int .i64 g.n, .int .i64 (g.len 0), .slice (some ⟨gg, 0, none⟩) n cap] 50)
    have HB1 := Lib.hid (hb1.alloc hb1.size (.cells #[.int .i64 g.n, .int .i64 (g.len 0), .slice (some ⟨gg, 0, none⟩) n cap] 50))
    have HRV := Lib.hid (hrv.keep hb2 (Nat.le_refl _))
    have HBX := Lib.hid (heap_alloc_new w1 (.cells #[.int .i64 g.n, .int .i64 (g.len 0), .slice (some ⟨gg, 0, none⟩) n cap] 50))
    have hsz1 : (w1.alloc (.cells #[.int .i64 g.n, .int .i64 (g.len 0), .slice (some ⟨gg, 0, none⟩) n cap] 50)).heap.size = w1.heap.size + 1 := by simp
    have hgl := hrv.lt
    obtain ⟨d0, d1, d2, _, _, _⟩ := cells3 HBX.out
    clear hq hrv hb1 hb2
    go_wp2_with fail
    refine (HPK.out gg cap n _ HRV.out).mono ?_
    rintro e w3 ⟨v3, rfl, hl3, hb3⟩
    have HB3 := Lib.hid (HB1.out.trans (hb3.mono HB1.out.size))
    have HX3 := Lib.hid ((hb3.block _ (by omega)).trans HBX.out)
    have HR3 := Lib.hid (HRV.out.keep hb3 (Nat.le_refl _))
    have hs3 := hb3.size
    obtain ⟨a3, c3, rfl⟩ := Lists.shape hl3
    have HL3 := Lib.hid hl3
    clear hb3 hl3 d0 d1 d2
    go_wp2
    go_loopw [5, 18] (fun s k wr => ∃ kk : Nat, kk ≤ l.length ∧ k = .int .i64 kk ∧ s = .int .i64 (g.smL (l.take kk)) ∧ Below w3.heap.size w3 wr) (fun _ k _ => l.length - (intOf k).toNat)
    case atStart => exact ⟨0, Nat.zero_le _, rfl, rfl, Below.refl _ _⟩
    case round =>
      obtain ⟨kk, hk, rfl, rfl, hb⟩ := hrel
      have HBR := Lib.hid hb
      have HB4 := Lib.hid (HB3.out.trans (hb.mono HB3.out.size))
      have hlr := HL3.out.below hb (Nat.le_refl _)
      have HRR := Lib.hid (HR3.out.keep hb (Nat.le_refl _))
      obtain ⟨d0, d1, d2, _, _, _⟩ := cells3 ((hb.block _ (by omega)).trans HX3.out)
      clear hb
      by_cases hlt : kk < l.length
      · have hlt' : (kk : Int) < l.length := by omega
        obtain ⟨b3, rfl, c1, hc1, hc2⟩ := hlr.atCell hlt
        have hc2' : c3 ≤ 9223372036854775807 := by unfold maxLen at hc2; omega
        have HST := Lib.hid (g.smL_step l hlt)
        obtain ⟨hr1, hr2⟩ := HRG.out (kk + 1) (by omega)
        rw [HST.out] at hr1 hr2
        have hww : IntKind.i64.wrap (g.smL (l.take kk) + g.prV ((l[kk]).1 : Int)) = g.smL (l.take kk) + g.prV ((l[kk]).1 : Int) := IntWalk.i64_in _ (by omega)
        have HPP := Lib.hid (HPR.out (l[kk]) (List.getElem_mem hlt) gg cap n wr HRR.out)
        obtain ⟨x, ex⟩ : ∃ x, (l[kk]).1 = x := ⟨_, rfl⟩
        rw [ex] at c1 HST hww HPP
        obtain ⟨p, ep⟩ : ∃ p, g.prV (x : Int) = p := ⟨_, rfl⟩
        rw [ep] at HST hww HPP
        obtain ⟨s0, es⟩ : ∃ p, g.smL (l.take kk) = p := ⟨_, rfl⟩
        rw [es] at HST hww ⊢
        clear ex ep es hlt hlr hc2 hr1 hr2
        go_wp2_with fail
        refine HPP.out.mono ?_
        rintro e w5 ⟨rfl, hb5⟩
        have HB5 := Lib.hid (HBR.out.trans (hb5.mono HBR.out.size))
        clear hb5 c1 d0 d1 d2
        go_wp2
        go_roundw
        case rel => exact ⟨kk + 1, by omega, by go_num, by rw [HST.out], HB5.out⟩
        case measure => simp [intOf]; omega
      · have hge : ¬ (kk : Int) < l.length := by omega
        have hkk : kk = l.length := by omega
        have HE := Lib.hid (show g.smV = g.smL (l.take kk) by rw [hkk]; exact HA.out)
        obtain ⟨s0, es⟩ : ∃ p, g.smL (l.take kk) = p := ⟨_, rfl⟩
        rw [es] at HE ⊢
        clear es hlr hkk
        go_wp2
        go_ret
        exact ⟨ret_int HE.out.symm, HB4.out⟩

end Go.Proofs.Ytcfeckpbjdipeaa

/- The most prominent peaks: the model and the program. -/
namespace Go.Proofs.Ytcfeckpbjdipeaa
open Go.RowKit
set_option linter.unusedVariables false

noncomputable def G.mstL (g : G) (least : Int) {M : Nat} (l : List (Ix M)) : List (Ix M) := l.filter (fun i => decide (least ≤ g.prV (i.1 : Int)))
noncomputable def G.msV (g : G) (least : Int) : List (Ix (g.n * g.len 0)) := g.mstL least g.rkV
theorem G.mstL_yes (g : G) (least : Int) {M : Nat} (l : List (Ix M)) {k : Nat} (h : k < l.length) (hs : least ≤ g.prV ((l[k]).1 : Int)) : g.mstL least (l.take (k + 1)) = g.mstL least (l.take k) ++ [l[k]] := by
  unfold G.mstL
  rw [List.take_succ_eq_append_getElem h, List.filter_append]
  simp [hs]
theorem G.mstL_no (g : G) (least : Int) {M : Nat} (l : List (Ix M)) {k : Nat} (h : k < l.length) (hs : ¬ least ≤ g.prV ((l[k]).1 : Int)) : g.mstL least (l.take (k + 1)) = g.mstL least (l.take k) := by
  unfold G.mstL
  rw [List.take_succ_eq_append_getElem h, List.filter_append]
  simp [hs]
theorem G.mstL_len (g : G) (least : Int) {M : Nat} (l : List (Ix M)) (k : Nat) : (g.mstL least (l.take k)).length ≤ k := by
  have := List.length_filter_le (fun i : Ix M => decide (least ≤ g.prV (i.1 : Int))) (l.take k)
  rw [List.length_take] at this
  unfold G.mstL
  omega
theorem G.rkV_len (g : G) : g.rkV.length ≤ 49 := by
  by_cases h : g.Valid
  · rw [G.rkV_yes h]
    have := rkL_len (R := g.n) (C := g.len 0) (Z := g.flat) (k := g.n * g.len 0)
    have := mul_le_49 h.1.2 h.2.1.2
    omega
  · rw [G.rkV_no h]; simp

/-- the state of a loop that picks from a list -/
structure MsI {M : Nat} (B D B3 : Nat) (w0 : World) (t3 : Value) (l : List (Ix M)) (wr : World) (v : Value) (L : List (Ix M)) : Prop where
  li : Lists B wr v L
  far : ∀ k, v.ownBlock = some k → k = D ∨ B3 ≤ k
  l3 : Lists B wr t3 l
  off : ∀ k, t3.ownBlock = some k → k ≠ D ∧ k < B3
  bel : Below B w0 wr
  siz : B3 ≤ wr.heap.size
  bsz : B ≤ wr.heap.size

theorem MsI.below {M B D B3 : Nat} {w0 wr w' : World} {t3 v : Value} {l L : List (Ix M)} (h : MsI B D B3 w0 t3 l wr v L) (hb : Below wr.heap.size wr w') : MsI B D B3 w0 t3 l w' v L :=
  ⟨h.li.below hb (Nat.le_refl _), h.far, h.l3.below hb (Nat.le_refl _), h.off, h.bel.trans (hb.mono h.bsz), Nat.le_trans h.siz hb.size, Nat.le_trans h.bsz hb.size⟩
theorem MsI.app {M B D B3 : Nat} {w0 wr w' : World} {t3 v v' : Value} {l L : List (Ix M)} {o : Obj} (h : MsI B D B3 w0 t3 l wr v L) (i : Ix M) (hown : w'.ownsRow B 3 1 v' (L.length + 1) (ixV L ++ [.int .i64 i.1])) (hg : (wr.alloc o).grownBy w' v.ownBlock)
    (hat : v'.ownBlock = v.ownBlock ∨ v'.ownBlock = some (wr.alloc o).heap.size) : MsI B D B3 w0 t3 l w' v' (L ++ [i]) := by
  have hs := hg.size
  rw [World.size_alloc] at hs
  have h1 := h.siz
  have h2 := h.bsz
  refine ⟨?_, fun k hk => ?_, ?_, h.off, ?_, by omega, by omega⟩
  · have e : ixV (L ++ [i]) = ixV L ++ [.int .i64 i.1] := by simp [ixV]
    unfold Lists
    rw [e, List.length_append]
    exact hown
  · rcases hat with e | e
    · exact h.far k (by rw [← e]; exact hk)
    · rw [e] at hk
      simp at hk
      omega
  · have ha : Lists B (wr.alloc o) t3 l := World.ownsRow.alloc h.l3 _
    refine World.ownsRow.kept ha hg ?_
    cases e : t3.ownBlock with
    | none => exact Or.inl rfl
    | some k =>
      right
      intro e2
      have := h.off k e
      have := h.far k e2.symm
      omega
  · exact (h.bel.alloc h2 o).grown hg (by rw [World.size_alloc]; omega) (fun k hk => (h.li.lt k hk).1)

set_option maxHeartbeats 4000000 in
set_option maxRecDepth 100000 in
theorem specPeakMost_any (v : Value) (lo hi : Nat) (g : G) (least : Int) (w : World) (hv : RdM lo hi w v g) (hh : hi ≤ w.heap.size) :
    Calls Try.prog 35 #[v, .int .i64 least] w (LvPost (g.msV least) w) := by
  have hb0 := (Below.refl w.heap.size w).alloc (Nat.le_refl _) (.cells #[] 3)
  have HB0 := Lib.hid hb0
  have HL0 := Lib.hid (show Lists w.heap.size (w.alloc (.cells #[] 3)) (.slice (some ⟨w.heap.size, 0, none⟩) 0 0) ([] : List (Ix (g.n * g.len 0))) from World.ownsRow_lit w #[] 0 (Nat.le_refl _) (Nat.zero_le _) (by simp))
  have HPL := Lib.hid (specPeakList_any v lo hi g (w.alloc (.cells #[] 3)) (hv.same (SameIn.below hb0 hh)) (Nat.le_trans hh hb0.size))
  have HPR := Lib.hid (fun (W : World) (hb : Below w.heap.size w W) (i : Int) => specPeakProminence_any v lo hi g i W (hv.same (SameIn.below hb hh)) (Nat.le_trans hh hb.size))
  have hlen := g.rkV_len
  have HA := Lib.hid (show g.msV least = g.mstL least (g.rkV.take g.rkV.length) by rw [List.take_length]; rfl)
  obtain ⟨l, el⟩ : ∃ l, g.rkV = l := ⟨_, rfl⟩
  rw [el] at HA hlen HPL
  clear hv hb0 el
  go_enter Try.func35, Try.ntmps35
  go_wp2_with fail
  refine HPL.out.mono ?_
  rintro e w3 ⟨v3, rfl, hl3, hb3⟩
  have HB3 := Lib.hid (HB0.out.trans (hb3.mono HB0.out.size))
  have HL03 := Lib.hid (HL0.out.below hb3 (Nat.le_refl _))
  obtain ⟨a3, c3, rfl⟩ := Lists.shape hl3
  have hsz0 : (w.alloc (.cells #[] 3)).heap.size = w.heap.size + 1 := by simp
  have hs3 := hb3.size
  have HMS := Lib.hid (show MsI w.heap.size w.heap.size w3.heap.size w (.slice a3 l.length c3) l w3 (.slice (some ⟨w.heap.size, 0, none⟩) 0 0) (g.mstL least (l.take 0)) from
    ⟨HL03.out, fun k hk => by simp [Value.ownBlock] at hk; omega, World.ownsRow.mono hl3 (by omega), fun k hk => by have := World.ownsRow.lt hl3 k hk; omega, HB3.out, Nat.le_refl _, HB3.out.size⟩)
  clear hb3 hl3
  obtain ⟨i0, hi0, hz0, hz1, hz2⟩ := info_parts Try.infoI
  go_wp2
  go_loopw [5, 7] (fun s k wr => ∃ (kk : Nat) (v' : Value), kk ≤ l.length ∧ k = .int .i64 kk ∧ v' = s ∧ MsI w.heap.size w.heap.size w3.heap.size w (.slice a3 l.length c3) l wr v' (g.mstL least (l.take kk))) (fun _ k _ => l.length - (intOf k).toNat)
  case atStart => exact ⟨0, _, Nat.zero_le _, rfl, rfl, HMS.out⟩
  case round =>
    obtain ⟨kk, v', hk, rfl, rfl, hms⟩ := hrel
    have MS := Lib.hid hms
    have HLN := Lib.hid (g.mstL_len least l kk)
    obtain ⟨a', c', rfl⟩ := Lists.shape hms.li
    by_cases hlt : kk < l.length
    · have hlt' : (kk : Int) < l.length := by omega
      obtain ⟨b3, rfl, c1, hc1, hc2⟩ := hms.l3.atCell hlt
      have hc2' : c3 ≤ 9223372036854775807 := by unfold maxLen at hc2; omega
      have HYES := Lib.hid (g.mstL_yes least l hlt)
      have HNO := Lib.hid (g.mstL_no least l hlt)
      have HPP := Lib.hid (HPR.out wr hms.bel ((l[kk]).1 : Int))
      have HAP := Lib.hid (fun (w4 : World) (h4 : MsI w.heap.size w.heap.size w3.heap.size w (.slice (some ⟨b3, 0, none⟩) l.length c3) l w4 (.slice a' (g.mstL least (l.take kk)).length c') (g.mstL least (l.take kk))) => show w4.cell? ⟨b3, kk, none⟩ = some (.int .i64 (l[kk]).1) from by
        obtain ⟨b9, e9, c9, _, _⟩ := h4.l3.atCell hlt
        cases e9; exact c9)
      obtain ⟨i, ei⟩ : ∃ i, l[kk] = i := ⟨_, rfl⟩
      rw [ei] at c1 HYES HNO HPP HAP
      obtain ⟨x, ex⟩ : ∃ x, i.1 = x := ⟨_, rfl⟩
      have EX := Lib.hid ex
      rw [ex] at c1 HYES HNO HPP HAP
      obtain ⟨p, ep⟩ : ∃ p, g.prV (x : Int) = p := ⟨_, rfl⟩
      rw [ep] at HYES HNO HPP
      obtain ⟨L, eL⟩ : ∃ L, g.mstL least (l.take kk) = L := ⟨_, rfl⟩
      rw [eL] at HYES HNO HAP MS HLN
      rw [eL]
      have hln := HLN.out
      clear ex ep eL ei hms hc2 hlt
      by_cases hs : least ≤ p
      · have HS := Lib.hid (HYES.out hs)
        go_wp2_with fail
        refine HPP.out.mono ?_
        rintro e w4 ⟨rfl, hb4⟩
        have M4 := Lib.hid (MS.out.below hb4)
        have hs4 := M4.out.bsz
        have c4 := HAP.out w4 M4.out
        have hli := M4.out.li
        unfold Lists at hli
        clear hb4 c1
        go_wp2_with (first | (at_builtin; refine wpList_append_own_at _ rfl _ _ 27 rfl w.heap.size 3 i0 (.int .i64 0) 1 8 Try.underlying27 hi0 hz0 hz1 hz2 rfl (by decide) _ L.length (ixV L) rfl (hli.alloc _) ⟨w4.heap.size, 0, none⟩ 1 1 [.int .i64 x] rfl rfl (World.news_of_block (cs := #[.int .i64 x]) (t := 3) (fr := (0, 0)) (heap_alloc_new w4 _)) (by simp [Value.oneCell']) (by unfold maxLen; omega) (by omega) (by simp; omega) ?_; intro v5 w5 hown5 hg5 _ hat5))
        have M5 := Lib.hid (M4.out.app i (by rw [EX.out]; exact hown5) hg5 hat5)
        clear hown5 hg5 hat5 hli c4
        go_wp2
        go_roundw
        case rel => exact ⟨kk + 1, v5, by omega, by go_num, rfl, by rw [HS.out]; exact M5.out⟩
        case measure => simp [intOf]; omega
      · have HS := Lib.hid (HNO.out hs)
        go_wp2_with fail
        refine HPP.out.mono ?_
        rintro e w4 ⟨rfl, hb4⟩
        have M4 := Lib.hid (MS.out.below hb4)
        clear hb4 c1
        go_wp2
        go_roundw
        case rel => exact ⟨kk + 1, _, by omega, by go_num, rfl, by rw [HS.out]; exact M4.out⟩
        case measure => simp [intOf]; omega
    · have hge : ¬ (kk : Int) < l.length := by omega
      have hkk : kk = l.length := by omega
      have HE := Lib.hid (show g.msV least = g.mstL least (l.take kk) by rw [hkk]; exact HA.out)
      obtain ⟨L, eL⟩ : ∃ L, g.mstL least (l.take kk) = L := ⟨_, rfl⟩
      rw [eL] at HE MS
      rw [eL]
      clear eL hms hkk
      go_wp2
      go_ret
      exact LvPost.mk' HE.out MS.out.li MS.out.bel

end Go.Proofs.Ytcfeckpbjdipeaa

/- The pass between two cells: the model and the program. -/
namespace Go.Proofs.Ytcfeckpbjdipeaa
open Go.RowKit
set_option linter.unusedVariables false

set_option maxHeartbeats 2000000 in
set_option maxRecDepth 100000 in
theorem l4Has_any (v : Value) (lo hi : Nat) (g : G) (i : Int) (w : World) (hv : RdM lo hi w v g) : ∃ b, (b = true ↔ g.PkIn i) ∧ Calls Try.prog 54 #[v, .int .i64 i] w (EqPost b w) := by
  have HV := Lib.hid (specValid_any v lo hi g w hv)
  by_cases h : g.Valid
  · have HB := Lib.hid (G.vB_yes h)
    have h49 := mul_le_49 h.1.2 h.2.1.2
    have h0 : 1 ≤ g.n * g.len 0 := Nat.mul_le_mul h.1.1 h.2.1.1
    have HC := Lib.hid (fun n => l2Cells_any v lo hi g (w.drewN n) (hv.same (fun _ _ _ => rfl)) h)
    obtain ⟨N, eN⟩ : ∃ N, g.n * g.len 0 = N := ⟨_, rfl⟩
    have hP : g.PkIn i ↔ 0 ≤ i ∧ i < (N : Int) := by unfold G.PkIn; rw [eN]; exact ⟨fun x => x.2, fun x => ⟨h, x⟩⟩
    rw [eN] at h49 h0 HC
    have HP := Lib.hid hP
    clear hP eN hv
    by_cases hi : 0 ≤ i ∧ i < (N : Int)
    · refine ⟨true, ⟨fun _ => HP.out.2 hi, fun _ => rfl⟩, ?_⟩
      obtain ⟨hi1, hi2⟩ := hi
      clear h
      go_enter Try.func54, Try.ntmps54
      go_wp2_with fail
      refine HV.out.mono ?_
      rintro e w1 ⟨rfl, n1, rfl⟩
      rw [HB.out]
      go_wp2_with fail
      refine (HC.out n1).mono ?_
      rintro e w1 ⟨rfl, rfl⟩
      go_wp2_with fail
      refine (l6In_yes _ _ _ _ hi1 (by omega)).mono ?_
      rintro e w1 ⟨rfl, rfl⟩
      go_wp2
      go_ret
      exact ⟨rfl, _, rfl⟩
    · refine ⟨false, ⟨fun e => (by cases e), fun e => absurd (HP.out.1 e) hi⟩, ?_⟩
      have hi3 : i < 0 ∨ (N : Int) - 1 < i := by omega
      have HI := Lib.hid hi3
      clear h hi hi3
      go_enter Try.func54, Try.ntmps54
      go_wp2_with fail
      refine HV.out.mono ?_
      rintro e w1 ⟨rfl, n1, rfl⟩
      rw [HB.out]
      go_wp2_with fail
      refine (HC.out n1).mono ?_
      rintro e w1 ⟨rfl, rfl⟩
      go_wp2_with fail
      refine (l6In_no _ _ _ _ HI.out).mono ?_
      rintro e w1 ⟨rfl, rfl⟩
      go_wp2
      go_ret
      exact ⟨rfl, _, rfl⟩
  · have HB := Lib.hid (G.vB_no h)
    refine ⟨false, ⟨fun e => (by cases e), fun e => absurd e.1 h⟩, ?_⟩
    clear h hv
    go_enter Try.func54, Try.ntmps54
    go_wp2_with fail
    refine HV.out.mono ?_
    rintro e w1 ⟨rfl, n1, rfl⟩
    rw [HB.out]
    go_wp2
    go_ret
    exact ⟨rfl, _, rfl⟩

set_option maxHeartbeats 4000000 in
set_option maxRecDepth 100000 in
theorem reliefWith_all (v : Value) (lo hi : Nat) (g : G) (f : Nat → Int) (m : Nat) (hm0 : 0 < m) (hm9 : m ≤ 9) (b : Nat) (w : World) (hv : RdM lo hi w v g) (hh : hi ≤ w.heap.size) (hb : ∀ j, j < m → w.cell? ⟨b, j, none⟩ = some (.int .i64 (f j))) :
    Calls Try.prog 62 #[v, .slice (some ⟨b, 0, none⟩) m m] w (RwPost (∀ j, j < m → g.PkIn (f j)) g w) := by
  have hbl := World.block_lt_of_cell? _ _ (hb 0 hm0)
  have hb0 := (Below.refl w.heap.size w).alloc (Nat.le_refl _) (.cells #[.int .i64 0, .int .i64 0, .slice none 0 0] 50)
  have HB0 := Lib.hid hb0
  have hv1 := hv.same (SameIn.below hb0 hh)
  have hh1 := Nat.le_trans hh hb0.size
  have HCB := Lib.hid (fun j (hj : j < m) => (hb0.cell (p := ⟨b, j, none⟩) hbl).trans (hb j hj))
  by_cases hval : g.Valid
  case neg =>
    have HC := Lib.hid (reliefOf_no v lo hi g (w.alloc (.cells #[.int .i64 0, .int .i64 0, .slice none 0 0] 50)) hv1 hh1 hval)
    have HNP := Lib.hid (show ¬ ∀ j, j < m → g.PkIn (f j) from fun h => hval (h 0 hm0).1)
    clear hv hb0 hval hv1 hh1 hb
    go_enter Try.func62, Try.ntmps62
    go_wp2_with fail
    refine HC.out.mono ?_
    rintro e w1 ⟨rfl, hb1⟩
    have hs1 := hb1.size
    simp only [World.size_alloc] at hs1
    have hR := (hb1.block w.heap.size (by simp)).trans (heap_alloc_new w (.cells #[.int .i64 0, .int .i64 0, .slice none 0 0] 50))
    have hB1 := HB0.out.trans (hb1.mono (by simp))
    have hR2 := (Below.heap_alloc w1 (.cells #[.int .i64 0, .int .i64 0, .slice none 0 0] 50) w.heap.size (by omega)).trans hR
    have HB1 := Lib.hid (hB1.alloc (by omega) (.cells #[.int .i64 0, .int .i64 0, .slice none 0 0] 50))
    obtain ⟨r0, r1, r2, f0, f1, f2⟩ := cells3 hR2
    have HE := Lib.hid (three_set _ w.heap.size _ _ _ (.int .i64 0) (.int .i64 0) (.slice none 0 0) hR2)
    have HBB := Lib.hid (below3 HB1.out (Nat.le_refl w.heap.size) (.int .i64 0) (.int .i64 0) (.slice none 0 0))
    clear hb1 hR hB1 hR2
    go_wp2
    exact bodyPost_ret (results_cell_row_tmp rfl _ _ w.heap.size _ #[.int .i64 0, .int .i64 0, .slice none 0 0] _ _ rfl HE.out Try.underlying50 rfl Try.sizeRel (.bool false) rfl) rfl (RwPost.no HNP.out ⟨rfl, HBB.out⟩)
  case pos =>
    have HC := Lib.hid (reliefOf_yes v lo hi g (w.alloc (.cells #[.int .i64 0, .int .i64 0, .slice none 0 0] 50)) hv1 hh1 hval)
    have h49 := mul_le_49 hval.1.2 hval.2.1.2
    have HPI := Lib.hid (fun (i : Int) => show (0 ≤ i ∧ i < (g.n * g.len 0 : Nat)) ↔ g.PkIn i from ⟨fun h => ⟨hval, h⟩, fun h => h.2⟩)
    clear hv hb0 hval hv1 hh1 hb
    go_enter Try.func62, Try.ntmps62
    go_wp2_with fail
    refine HC.out.mono ?_
    intro e w1 hq
    obtain ⟨n, gg, cap, xs, hnn, rfl, hown, hvals, hb1⟩ := hq
    have hrv := Rv.of_own hown hnn hvals
    have hgs := (hown.lt gg rfl).1
    simp only [World.size_alloc] at hgs
    have HNN := Lib.hid hnn
    have hn49 : n ≤ 49 := by omega
    have hs1 := hb1.size
    simp only [World.size_alloc] at hs1
    have hR := (hb1.block w.heap.size (by simp)).trans (heap_alloc_new w (.cells #[.int .i64 0, .int .i64 0, .slice none 0 0] 50))
    have hB1 := HB0.out.trans (hb1.mono (by simp))
    have HLOC := Lib.hid (heap_alloc_new w1 (.cells #[.int .i64 g.n, .int .i64 (g.len 0), .slice (some ⟨gg, 0, none⟩) n cap] 50))
    have HR := Lib.hid ((Below.heap_alloc w1 (.cells #[.int .i64 g.n, .int .i64 (g.len 0), .slice (some ⟨gg, 0, none⟩) n cap] 50) w.heap.size (by omega)).trans hR)
    have HRV := Lib.hid (hrv.keep ((Below.refl w1.heap.size w1).alloc (Nat.le_refl _) (.cells #[.int .i64 g.n, .int .i64 (g.len 0), .slice (some ⟨gg, 0, none⟩) n cap] 50)) (Nat.le_refl _))
    have HB1 := Lib.hid (hB1.alloc (by omega) (.cells #[.int .i64 g.n, .int .i64 (g.len 0), .slice (some ⟨gg, 0, none⟩) n cap] 50))
    have HCB1 := Lib.hid (fun j (hj : j < m) => (Below.cell ((Below.refl w1.heap.size w1).alloc (Nat.le_refl _) (.cells #[.int .i64 g.n, .int .i64 (g.len 0), .slice (some ⟨gg, 0, none⟩) n cap] 50)) (p := ⟨b, j, none⟩) (show b < w1.heap.size by omega)).trans ((hb1.cell (p := ⟨b, j, none⟩) (show b < (w.alloc (.cells #[.int .i64 0, .int .i64 0, .slice none 0 0] 50)).heap.size by simp; omega)).trans (HCB.out j hj)))
    have hs2 : w1.heap.size + 1 ≤ (w1.alloc (.cells #[.int .i64 g.n, .int .i64 (g.len 0), .slice (some ⟨gg, 0, none⟩) n cap] 50)).heap.size := by simp
    clear hown hvals hrv hb1 hR hB1 hnn
    go_wp2
    generalize hW1 : w1.alloc (.cells #[.int .i64 g.n, .int .i64 (g.len 0), .slice (some ⟨gg, 0, none⟩) n cap] 50) = W1 at HLOC HR HRV HB1 HCB1 hs2 ⊢
    clear hW1
    go_loopw [9, 20] (fun _ x20 wr => ∃ k : Nat, k ≤ m ∧ x20 = .int .i64 k ∧ (∀ j, j < k → g.PkIn (f j)) ∧ Below W1.heap.size W1 wr) (fun _ x20 _ => m - (intOf x20).toNat)
    case atStart => exact ⟨0, by omega, rfl, fun j h => (by omega), Below.refl _ _⟩
    case round =>
      obtain ⟨k, hk, rfl, hpk, hbk⟩ := hrel
      have HBK := Lib.hid hbk
      have hsk := hbk.size
      have HR2 := Lib.hid ((hbk.block w.heap.size (by omega)).trans HR.out)
      have HL2 := Lib.hid ((hbk.block w1.heap.size (by omega)).trans HLOC.out)
      have HPK := Lib.hid hpk
      clear hbk hpk
      obtain ⟨d0, d1, d2, _, _, _⟩ := cells3 HL2.out
      by_cases hk0 : k < m
      case pos =>
        have hkm : (k : Int) < m := by omega
        have cb := (HBK.out.cell (p := ⟨b, k, none⟩) (show b < W1.heap.size by omega)).trans (HCB1.out k hk0)
        have HPK2 := Lib.hid (fun (hp : g.PkIn (f k)) (j : Nat) (hj : j < k + 1) => show g.PkIn (f j) from by
          by_cases e : j = k
          · rw [e]; exact hp
          · exact HPK.out j (by omega))
        have HNO := Lib.hid (fun (hp : ¬ g.PkIn (f k)) => show ¬ ∀ j, j < m → g.PkIn (f j) from fun h => hp (h k hk0))
        obtain ⟨i, ei⟩ : ∃ i, f k = i := ⟨_, rfl⟩
        rw [ei] at cb HPK2 HNO
        clear ei hk0
        by_cases hin : 0 ≤ i ∧ i < (n : Int)
        case pos =>
          have HIN := Lib.hid (hasIndex_any g.n (g.len 0) gg cap n i wr (by omega))
          have HP := Lib.hid (HPK2.out ((HPI.out i).1 (by rw [← HNN.out]; exact hin)))
          rw [decide_eq_true hin] at HIN
          clear hin
          go_wp2_with fail
          refine HIN.out.mono ?_
          rintro e w3 ⟨rfl, hb3⟩
          have HB3 := Lib.hid (HBK.out.trans (hb3.mono hsk))
          clear hb3
          go_wp2
          go_roundw
          case rel => exact ⟨k + 1, by omega, by go_num, HP.out, HB3.out⟩
          case measure => simp [intOf]; omega
        case neg =>
          have HIN := Lib.hid (hasIndex_any g.n (g.len 0) gg cap n i wr (by omega))
          have HP := Lib.hid (HNO.out (fun h => hin (by rw [HNN.out]; exact (HPI.out i).2 h)))
          rw [decide_eq_false hin] at HIN
          clear hin
          go_wp2_with fail
          refine HIN.out.mono ?_
          rintro e w3 ⟨rfl, hb3⟩
          have hs3 := hb3.size
          have hR3 := (hb3.block w.heap.size (by omega)).trans HR2.out
          obtain ⟨r0, r1, r2, f0, f1, f2⟩ := cells3 hR3
          have HE := Lib.hid (three_set _ w.heap.size _ _ _ (.int .i64 0) (.int .i64 0) (.slice none 0 0) hR3)
          have HBB := Lib.hid (below3 (HB1.out.trans ((HBK.out.trans (hb3.mono hsk)).mono (by omega))) (Nat.le_refl w.heap.size) (.int .i64 0) (.int .i64 0) (.slice none 0 0))
          clear hb3 hR3
          go_wp2
          exact bodyPost_ret (results_cell_row_tmp rfl _ _ w.heap.size _ #[.int .i64 0, .int .i64 0, .slice none 0 0] _ _ rfl HE.out Try.underlying50 rfl Try.sizeRel (.bool false) rfl) rfl (RwPost.no HP.out ⟨rfl, HBB.out⟩)
      case neg =>
        obtain rfl : k = m := by omega
        have hge : ¬ (k : Int) < k := by omega
        have HP := Lib.hid HPK.out
        obtain ⟨r0, r1, r2, f0, f1, f2⟩ := cells3 HR2.out
        have HE := Lib.hid (three_set _ w.heap.size _ _ _ (.int .i64 g.n) (.int .i64 (g.len 0)) (.slice (some ⟨gg, 0, none⟩) n cap) HR2.out)
        have HBB := Lib.hid (below3 (HB1.out.trans (HBK.out.mono (by omega))) (Nat.le_refl w.heap.size) (.int .i64 g.n) (.int .i64 (g.len 0)) (.slice (some ⟨gg, 0, none⟩) n cap))
        have HRV2 := Lib.hid (rv_set3 (HRV.out.keep HBK.out (Nat.le_refl _)) (show gg ≠ w.heap.size by omega) (.int .i64 g.n) (.int .i64 (g.len 0)) (.slice (some ⟨gg, 0, none⟩) n cap))
        clear hk0
        go_wp2
        exact bodyPost_ret (results_cell_row_tmp rfl _ _ w.heap.size _ #[.int .i64 g.n, .int .i64 (g.len 0), .slice (some ⟨gg, 0, none⟩) n cap] _ _ rfl HE.out Try.underlying50 rfl Try.sizeRel (.bool true) rfl) rfl (RwPost.yes HP.out ⟨n, gg, cap, rfl, HRV2.out, by omega, HBB.out⟩)

open Classical in
noncomputable def G.psB (g : G) (a b : Int) : Int := if h : g.PkIn a ∧ g.PkIn b then psV g.n (g.len 0) g.flat ⟨a.toNat, by have := h.1.2; omega⟩ b.toNat else -1
theorem G.psB_no {g : G} {a b : Int} (h : ¬ (g.PkIn a ∧ g.PkIn b)) : g.psB a b = -1 := by unfold G.psB; rw [dif_neg h]
theorem G.psB_yes {g : G} {a b : Ix (g.n * g.len 0)} (h : g.Valid) : g.psB (a.1 : Int) (b.1 : Int) = psV g.n (g.len 0) g.flat a b.1 := by
  have h1 : g.PkIn (a.1 : Int) ∧ g.PkIn (b.1 : Int) := ⟨⟨h, by omega, by have := a.2; omega⟩, ⟨h, by omega, by have := b.2; omega⟩⟩
  unfold G.psB
  rw [dif_pos h1]
  rfl

end Go.Proofs.Ytcfeckpbjdipeaa

/- The pass between two cells: both functions by contract. -/
namespace Go.Proofs.Ytcfeckpbjdipeaa
open Go.RowKit
set_option linter.unusedVariables false

set_option maxHeartbeats 2000000 in
set_option maxRecDepth 100000 in
theorem specPassBetween_any (v : Value) (lo hi : Nat) (g : G) (a b : Int) (w : World) (hv : RdM lo hi w v g) (hh : hi ≤ w.heap.size) :
    Calls Try.prog 23 #[v, .int .i64 a, .int .i64 b] w (IntPost (g.psB a b) w) := by
  obtain ⟨p, hp, hcp⟩ := l4Has_any v lo hi g a w hv
  have HCP := Lib.hid hcp
  by_cases ha : g.PkIn a
  case neg =>
    have HA := Lib.hid (G.psB_no (a := a) (b := b) (g := g) (fun h => ha h.1))
    obtain rfl : p = false := by
      cases p with
      | false => rfl
      | true => exact absurd (hp.1 rfl) ha
    clear hv hcp hp ha
    go_enter Try.func23, Try.ntmps23
    go_wp2_with fail
    refine HCP.out.mono ?_
    rintro e w1 ⟨rfl, m, rfl⟩
    go_wp2
    go_ret
    exact ⟨ret_int HA.out.symm, below_drewN (Below.refl _ _) m⟩
  case pos =>
    obtain rfl : p = true := hp.2 ha
    have HQ := Lib.hid (fun m => l4Has_any v lo hi g b (w.drewN m) (hv.same (fun _ _ _ => rfl)))
    by_cases hb : g.PkIn b
    case neg =>
      have HA := Lib.hid (G.psB_no (a := a) (b := b) (g := g) (fun h => hb h.2))
      have HQ2 := Lib.hid (fun m => show Calls Try.prog 54 #[v, .int .i64 b] (w.drewN m) (EqPost false (w.drewN m)) from by
        obtain ⟨q, hq, hcq⟩ := HQ.out m
        obtain rfl : q = false := by
          cases q with
          | false => rfl
          | true => exact absurd (hq.1 rfl) hb
        exact hcq)
      clear hv hcp hp ha hb HQ
      go_enter Try.func23, Try.ntmps23
      go_wp2_with fail
      refine HCP.out.mono ?_
      rintro e w1 ⟨rfl, m, rfl⟩
      go_wp2_with fail
      refine (HQ2.out m).mono ?_
      rintro e w1 ⟨rfl, m2, rfl⟩
      go_wp2
      go_ret
      exact ⟨ret_int HA.out.symm, below_drewN (Below.refl _ _) (m + m2)⟩
    case pos =>
      have HQ2 := Lib.hid (fun m => show Calls Try.prog 54 #[v, .int .i64 b] (w.drewN m) (EqPost true (w.drewN m)) from by
        obtain ⟨q, hq, hcq⟩ := HQ.out m
        obtain rfl : q = true := hq.2 hb
        exact hcq)
      have hval := ha.1
      obtain ⟨x, hx⟩ : ∃ x : Ix (g.n * g.len 0), (x.1 : Int) = a := ⟨⟨a.toNat, by have := ha.2; omega⟩, by have := ha.2; show ((a.toNat : Nat) : Int) = a; omega⟩
      obtain ⟨y, hy⟩ : ∃ y : Ix (g.n * g.len 0), (y.1 : Int) = b := ⟨⟨b.toNat, by have := hb.2; omega⟩, by have := hb.2; show ((b.toNat : Nat) : Int) = b; omega⟩
      subst hx hy
      have HA := Lib.hid (G.psB_yes (a := x) (b := y) hval)
      have h49 := mul_le_49 hval.1.2 hval.2.1.2
      have hy2 := y.2
      obtain ⟨N, eN⟩ : ∃ N, g.n * g.len 0 = N := ⟨_, rfl⟩
      have HPV := Lib.hid (fun (W : World) (hW : RdM lo hi W v g) (hs : hi ≤ W.heap.size) => show Calls Try.prog 64 #[v, .int .i64 x.1] W (fun e w' => ∃ b, e = .returned (.slice (some ⟨b, 0, none⟩) N N) ∧ W.heap.size ≤ b ∧ w'.rowIs b 3 N (ivF (psV g.n (g.len 0) g.flat x)) ∧ Below W.heap.size W w') from by
        rw [← eN]
        exact l4Passes_any v lo hi g g.n (g.len 0) rfl rfl x W hW hs hval)
      have hy3 : y.1 < N := by rw [← eN]; exact hy2
      rw [eN] at h49
      clear hy2
      have HV := Lib.hid hv
      obtain ⟨q, eq⟩ : ∃ q, psV g.n (g.len 0) g.flat x y.1 = q := ⟨_, rfl⟩
      have EQ := Lib.hid eq
      obtain ⟨xx, exx⟩ : ∃ a, x.1 = a := ⟨_, rfl⟩
      obtain ⟨yy, eyy⟩ : ∃ a, y.1 = a := ⟨_, rfl⟩
      rw [exx] at HCP HPV HA
      rw [eyy] at HQ2 HA EQ hy3
      rw [exx, eyy]
      have hyN : (yy : Int) < N := by omega
      clear hv hcp hp ha hb HQ hval eq exx eyy eN
      go_enter Try.func23, Try.ntmps23
      go_wp2_with fail
      refine HCP.out.mono ?_
      rintro e w1 ⟨rfl, m, rfl⟩
      go_wp2_with fail
      refine (HQ2.out m).mono ?_
      rintro e w1 ⟨rfl, m2, rfl⟩
      have HBD := Lib.hid (show Below w.heap.size w (w.drewN (m + m2)) from below_drewN (Below.refl _ _) (m + m2))
      have HPV2 := Lib.hid (HPV.out (w.drewN (m + m2)) (HV.out.same (fun _ _ _ => rfl)) hh)
      go_wp2_with fail
      refine HPV2.out.mono ?_
      rintro e w4 ⟨b4, rfl, hb4, hrow, hbel⟩
      have HB4 := Lib.hid (HBD.out.trans (hbel.mono (show w.heap.size ≤ w.heap.size from Nat.le_refl _)))
      have c1 : w4.cell? ⟨b4, yy, none⟩ = some (.int .i64 q) := by
        have := hrow.cell hy3
        rw [← EQ.out]
        exact this
      clear hrow hbel
      go_wp2
      go_ret
      exact ⟨ret_int (by rw [HA.out, EQ.out]), HB4.out⟩

theorem callFunc_pass : ∀ (args : Array Value) (W : World), Sem.run Try.prog (callFunc 105 args) W = .ok (.enter 105 args) W := fun _ _ => by kernel_rfl

set_option maxHeartbeats 2000000 in
set_option maxRecDepth 20000 in
theorem clos_pass (B : Nat) (z : Int) (x i : Nat) (W : World) (h3 : W.cell? ⟨B, 0, none⟩ = some (.int .i64 i)) (hB : B < W.heap.size) :
    Calls Try.prog 105 #[.agg #[.int .i64 z, .int .i64 x], .pointer (some ⟨B, 0, none⟩)] W (BlPost (decide (x = i)) W) := by
  have hb0 := (Below.refl W.heap.size W).alloc (Nat.le_refl _) (.cells #[.int .i64 z, .int .i64 x] 93)
  have HB0 := Lib.hid hb0
  obtain ⟨d0, d1, _, _⟩ := cells2P (heap_alloc_new W (.cells #[.int .i64 z, .int .i64 x] 93))
  have c3 := (hb0.cell (p := ⟨B, 0, none⟩) hB).trans h3
  have HE := Lib.hid (show ((x : Int) == (i : Int)) = decide (x = i) by
    by_cases h : x = i
    · subst h; simp
    · rw [decide_eq_false h, beq_eq_false_iff_ne]; omega)
  obtain ⟨t, et⟩ : ∃ t, ((x : Int) == (i : Int)) = t := ⟨_, rfl⟩
  rw [et] at HE
  clear hb0
  go_enter Try.func105, Try.ntmps105
  go_wp2
  go_ret
  exact ⟨by rw [← HE.out]; rfl, HB0.out⟩

set_option maxHeartbeats 2000000 in
set_option maxRecDepth 20000 in
theorem pass_any (R C gg cap cnt : Nat) (hR : R ≤ 7) (hC : C ≤ 7) (Z : Nat → Int) (hZ : ∀ x, x < R * C → 0 ≤ Z x ∧ Z x ≤ 99) (a b : Ix (R * C)) (w : World) (h : Rv w R C cnt gg cap Z) :
    Calls Try.prog 63 #[.agg #[.int .i64 R, .int .i64 C, .slice (some ⟨gg, 0, none⟩) cnt cap], .int .i64 a.1, .int .i64 b.1] w (IntPost (psV R C Z a b.1) w) := by
  obtain ⟨W0, hW0⟩ : ∃ W0, W0 = (w.alloc (.cells #[.int .i64 R, .int .i64 C, .slice (some ⟨gg, 0, none⟩) cnt cap] 50)).alloc (.cells #[.int .i64 b.1] 3) := ⟨_, rfl⟩
  have hs0 : W0.heap.size = w.heap.size + 2 := by rw [hW0]; simp
  have hb0 : Below w.heap.size w W0 := by rw [hW0]; exact ((Below.refl _ _).alloc (Nat.le_refl _) _).alloc (by simp) _
  have hkb : W0.heap[w.heap.size + 1]? = some (.cells #[.int .i64 b.1] 3 (0, 0)) := by rw [hW0]; exact heap_alloc2_new _ _ _
  have h0 := h.keep hb0 (Nat.le_refl _)
  have hps : PsTo R C Z a (fun x => decide (x.1 = b.1)) (psV R C Z a b.1) := Or.inl ⟨b, by simp, psV_is hZ a b, fun y q hy hq => by
    have e : y = b := Subtype.ext (by simpa using hy)
    subst e
    have := hq.eq (psV_is hZ a y)
    omega⟩
  have HC := Lib.hid (show Calls Try.prog 104 #[.agg #[.int .i64 R, .int .i64 C, .slice (some ⟨gg, 0, none⟩) cnt cap], .int .i64 a.1, .func (.func 105) #[] #[.pointer (some ⟨w.heap.size + 1, 0, none⟩)]] W0 (IntPost (psV R C Z a b.1) W0) from
    (passTo_any R C gg cap cnt hR hC Z hZ a 105 #[.pointer (some ⟨w.heap.size + 1, 0, none⟩)] (fun x => decide (x.1 = b.1)) W0 h0 callFunc_pass (fun x W hbel => by
      have kk := cell_of_one ((hbel.block _ (by omega)).trans hkb)
      have hsz := hbel.size
      exact clos_pass (w.heap.size + 1) (Z x.1) x.1 b.1 W kk (by omega))).mono (by
        rintro e w' ⟨v, rfl, hv, hb⟩
        exact ⟨by rw [hv.eq hps], hb⟩))
  have HB0 := Lib.hid hb0
  have HS0 := Lib.hid hs0
  rw [hW0] at HC HB0 HS0
  obtain ⟨q, eq⟩ : ∃ q, psV R C Z a b.1 = q := ⟨_, rfl⟩
  rw [eq] at HC ⊢
  clear h hZ h0 hkb hb0 hs0 hW0 eq hps W0
  go_enter Try.func63, Try.ntmps63
  go_wp2_with fail
  refine HC.out.mono ?_
  rintro e w2 ⟨rfl, hb2⟩
  have HB2 := Lib.hid (HB0.out.trans (hb2.mono (by rw [HS0.out]; omega)))
  clear hb2
  go_wp2
  go_ret
  exact ⟨rfl, HB2.out⟩

set_option maxHeartbeats 2000000 in
set_option maxRecDepth 20000 in
theorem implPassBetween_any (v : Value) (lo hi : Nat) (g : G) (a b : Int) (w : World) (hv : RdM lo hi w v g) (hh : hi ≤ w.heap.size) :
    Calls Try.prog 22 #[v, .int .i64 a, .int .i64 b] w (IntPost (g.psB a b) w) := by
  have hb0 := (Below.refl w.heap.size w).alloc (Nat.le_refl _) (.cells #[.int .i64 a, .int .i64 b] 3)
  have HB0 := Lib.hid hb0
  have hs0 : (w.alloc (.cells #[.int .i64 a, .int .i64 b] 3)).heap.size = w.heap.size + 1 := by simp
  have HC := Lib.hid (reliefWith_all v lo hi g (fun j => if j = 0 then a else b) 2 (by omega) (by omega) w.heap.size (w.alloc (.cells #[.int .i64 a, .int .i64 b] 3)) (hv.same (SameIn.below hb0 hh)) (Nat.le_trans hh hb0.size) (fun j hj => by
    obtain ⟨d0, d1, _, _⟩ := cells2P (heap_alloc_new w (.cells #[.int .i64 a, .int .i64 b] 3))
    by_cases e : j = 0
    · subst e; exact d0
    · obtain rfl : j = 1 := by omega
      exact d1))
  have hiff : (∀ j, j < 2 → g.PkIn ((fun j : Nat => if j = 0 then a else b) j)) ↔ (g.PkIn a ∧ g.PkIn b) := ⟨fun h => ⟨h 0 (by omega), h 1 (by omega)⟩, fun h j hj => by
    by_cases e : j = 0
    · subst e; exact h.1
    · obtain rfl : j = 1 := by omega
      exact h.2⟩
  clear hv hb0
  by_cases h : g.PkIn a ∧ g.PkIn b
  · have HC2 := Lib.hid (HC.out.mono (fun e w' k => k.1 (hiff.2 h)))
    have hval := h.1.1
    have h7 := hval.1.2
    have h77 := hval.2.1.2
    obtain ⟨x, hx⟩ : ∃ x : Ix (g.n * g.len 0), (x.1 : Int) = a := ⟨⟨a.toNat, by have := h.1.2; omega⟩, by have := h.1.2; show ((a.toNat : Nat) : Int) = a; omega⟩
    obtain ⟨y, hy⟩ : ∃ y : Ix (g.n * g.len 0), (y.1 : Int) = b := ⟨⟨b.toNat, by have := h.2.2; omega⟩, by have := h.2.2; show ((b.toNat : Nat) : Int) = b; omega⟩
    subst hx hy
    have HV := Lib.hid (G.psB_yes (a := x) (b := y) hval)
    have HK := Lib.hid (fun (gg cap cnt : Nat) (W : World) (hr : Rv W g.n (g.len 0) cnt gg cap g.flat) => pass_any g.n (g.len 0) gg cap cnt h7 h77 g.flat (fun a ha => flat_okW hval ha) x y W hr)
    rw [← HV.out] at HK
    obtain ⟨q, eq⟩ : ∃ q, g.psB (x.1 : Int) (y.1 : Int) = q := ⟨_, rfl⟩
    rw [eq] at HK ⊢
    obtain ⟨xx, exx⟩ : ∃ q, x.1 = q := ⟨_, rfl⟩
    obtain ⟨yy, eyy⟩ : ∃ q, y.1 = q := ⟨_, rfl⟩
    rw [exx, eyy] at HK HC2 HB0 hs0
    rw [exx, eyy]
    clear HC h hiff hval HV eq exx eyy
    go_enter Try.func22, Try.ntmps22
    go_wp2_with fail
    refine HC2.out.mono ?_
    rintro e w1 ⟨n, gg, cap, rfl, hrv, _, hb1⟩
    have hbw := HB0.out.trans (hb1.mono (by rw [hs0]; omega))
    have HB1 := Lib.hid (hbw.alloc hbw.size (.cells #[.int .i64 g.n, .int .i64 (g.len 0), .slice (some ⟨gg, 0, none⟩) n cap] 50))
    have HKC := Lib.hid (HK.out gg cap n _ (hrv.keep ((Below.refl w1.heap.size w1).alloc (Nat.le_refl _) (.cells #[.int .i64 g.n, .int .i64 (g.len 0), .slice (some ⟨gg, 0, none⟩) n cap] 50)) (Nat.le_refl _)))
    obtain ⟨d0, d1, d2, _, _, _⟩ := cells3 (heap_alloc_new w1 (.cells #[.int .i64 g.n, .int .i64 (g.len 0), .slice (some ⟨gg, 0, none⟩) n cap] 50))
    clear hb1 hrv hbw
    go_wp2_with fail
    refine HKC.out.mono ?_
    rintro e w2 ⟨rfl, hb2⟩
    have HB2 := Lib.hid (HB1.out.trans (hb2.mono HB1.out.size))
    clear hb2
    go_wp2
    go_ret
    exact ⟨rfl, HB2.out⟩
  · have HC2 := Lib.hid (HC.out.mono (fun e w' k => k.2 (fun z => h (hiff.1 z))))
    have HH := Lib.hid (G.psB_no h)
    clear HC h hiff
    go_enter Try.func22, Try.ntmps22
    go_wp2_with fail
    refine HC2.out.mono ?_
    rintro e w1 ⟨rfl, hb1⟩
    have hbw := HB0.out.trans (hb1.mono (by rw [hs0]; omega))
    have HB1 := Lib.hid (hbw.alloc hbw.size (.cells #[.int .i64 0, .int .i64 0, .slice none 0 0] 50))
    clear hb1 hbw
    go_wp2
    go_ret
    exact ⟨ret_int HH.out.symm, HB1.out⟩

end Go.Proofs.Ytcfeckpbjdipeaa
