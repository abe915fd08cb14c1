/- Keys and prominences: what is reckoned. -/
import Derived.Test.YtlbdglhippapnabPv
import Derived.Test.YtlbdglhippapnabRange
namespace Go.Proofs.Ytlbdglhippapnab
set_option linter.unusedVariables false

/-- the greatest pass to a cell of a kind, or the least height if there is none -/
def PsTo (R C : Nat) (Z : Nat → Int) (st : Ix (R * C)) (wt : Ix (R * C) → Bool) (v : Int) : Prop :=
  (∃ x, wt x = true ∧ IsPs R C Z st x v ∧ ∀ y q, wt y = true → IsPs R C Z st y q → q ≤ v) ∨ ((∀ x, wt x = false) ∧ (∀ x : Ix (R * C), v ≤ Z x.1) ∧ ∀ q, (∀ x : Ix (R * C), q ≤ Z x.1) → q ≤ v)
theorem PsTo.eq {R C : Nat} {Z : Nat → Int} {st : Ix (R * C)} {wt : Ix (R * C) → Bool} {v v' : Int} (h : PsTo R C Z st wt v) (k : PsTo R C Z st wt v') : v = v' := by
  rcases h with ⟨x, h1, h2, h3⟩ | ⟨h1, h2, h3⟩
  · rcases k with ⟨y, k1, k2, k3⟩ | ⟨k1, k2, k3⟩
    · have := h3 y v' k1 k2
      have := k3 x v h1 h2
      omega
    · rw [k1] at h1; cases h1
  · rcases k with ⟨y, k1, k2, k3⟩ | ⟨k1, k2, k3⟩
    · rw [h1] at k1; cases k1
    · have := h3 v' k2
      have := k3 v h2
      omega

theorem mn_le (Z : Nat → Int) : ∀ {n x : Nat}, x < n → mn Z n ≤ Z x
  | 0, x, h => by omega
  | n + 1, x, h => by
    show min (mn Z n) (Z n) ≤ Z x
    by_cases e : x = n
    · subst e; omega
    · have := mn_le Z (n := n) (x := x) (by omega)
      omega
theorem mn_is (Z : Nat → Int) : ∀ {n : Nat}, 0 < n → ∃ x, x < n ∧ mn Z n = Z x
  | 0, h => by omega
  | n + 1, _ => by
    show ∃ x, x < n + 1 ∧ min (mn Z n) (Z n) = Z x
    rcases Nat.eq_zero_or_pos n with e | e
    · subst e
      refine ⟨0, by omega, ?_⟩
      show min (Z 0) (Z 0) = Z 0
      omega
    · obtain ⟨x, hx, ex⟩ := mn_is Z e
      by_cases h : mn Z n ≤ Z n
      · exact ⟨x, by omega, by omega⟩
      · exact ⟨n, by omega, by omega⟩

/-- the greatest of the passes to the higher cells below k -/
noncomputable def kyN (R C : Nat) (Z : Nat → Int) (i : Ix (R * C)) : Nat → Int
  | 0 => -1
  | k + 1 => if hiB Z k i.1 = true then max (kyN R C Z i k) (psV R C Z i k) else kyN R C Z i k
noncomputable def keyV (R C : Nat) (Z : Nat → Int) (i : Ix (R * C)) : Int := if kyN R C Z i (R * C) < 0 then mn Z (R * C) else kyN R C Z i (R * C)
theorem kyN_yes {R C : Nat} {Z : Nat → Int} {i : Ix (R * C)} {k : Nat} (h : hiB Z k i.1 = true) : kyN R C Z i (k + 1) = max (kyN R C Z i k) (psV R C Z i k) := by show (if _ then _ else _) = _; rw [if_pos h]
theorem kyN_no {R C : Nat} {Z : Nat → Int} {i : Ix (R * C)} {k : Nat} (h : hiB Z k i.1 = false) : kyN R C Z i (k + 1) = kyN R C Z i k := by show (if _ then _ else _) = _; rw [if_neg (by rw [h]; simp)]
theorem psV_ge {R C : Nat} {Z : Nat → Int} (hZ : ∀ x, x < R * C → 0 ≤ Z x ∧ Z x ≤ 99) (a b : Ix (R * C)) : 0 ≤ psV R C Z a b.1 ∧ psV R C Z a b.1 ≤ 99 := by
  have h := psV_is hZ a b
  have h1 := h.2 0 (rch_all (fun y hy => (hZ y hy).1) a b)
  have h2 := h.1.lst
  have := hZ b.1 b.2
  omega
theorem kyN_spec {R C : Nat} {Z : Nat → Int} (hZ : ∀ x, x < R * C → 0 ≤ Z x ∧ Z x ≤ 99) (i : Ix (R * C)) : ∀ k, k ≤ R * C → (kyN R C Z i k = -1 ∧ ∀ x, x < k → hiB Z x i.1 = false) ∨
    (∃ x : Ix (R * C), x.1 < k ∧ hiB Z x.1 i.1 = true ∧ kyN R C Z i k = psV R C Z i x.1 ∧ ∀ y : Ix (R * C), y.1 < k → hiB Z y.1 i.1 = true → psV R C Z i y.1 ≤ kyN R C Z i k)
  | 0, _ => Or.inl ⟨rfl, fun x h => by omega⟩
  | k + 1, hk => by
    have ih := kyN_spec hZ i k (by omega)
    have hr := psV_ge hZ i ⟨k, by omega⟩
    by_cases hb : hiB Z k i.1 = true
    · right
      rw [kyN_yes hb]
      rcases ih with ⟨h1, h2⟩ | ⟨x, h1, h2, h3, h4⟩
      · refine ⟨⟨k, by omega⟩, Nat.lt_succ_self k, hb, by rw [h1]; show max (-1) (psV R C Z i k) = psV R C Z i k; have : 0 ≤ psV R C Z i k := hr.1; omega, fun y hy hy2 => ?_⟩
        by_cases e : y.1 = k
        · rw [e]; omega
        · have := h2 y.1 (by omega)
          rw [this] at hy2; cases hy2
      · by_cases hm : kyN R C Z i k ≤ psV R C Z i k
        · refine ⟨⟨k, by omega⟩, Nat.lt_succ_self k, hb, by show max (kyN R C Z i k) (psV R C Z i k) = psV R C Z i k; omega, fun y hy hy2 => ?_⟩
          by_cases e : y.1 = k
          · rw [e]; omega
          · have := h4 y (by omega) hy2
            omega
        · refine ⟨x, by omega, h2, by rw [← h3]; omega, fun y hy hy2 => ?_⟩
          by_cases e : y.1 = k
          · rw [e]; omega
          · have := h4 y (by omega) hy2
            omega
    · have hb' : hiB Z k i.1 = false := by simpa using hb
      rw [kyN_no hb']
      rcases ih with ⟨h1, h2⟩ | ⟨x, h1, h2, h3, h4⟩
      · refine Or.inl ⟨h1, fun x hx => ?_⟩
        by_cases e : x = k
        · subst e; exact hb'
        · exact h2 x (by omega)
      · refine Or.inr ⟨x, by omega, h2, h3, fun y hy hy2 => ?_⟩
        by_cases e : y.1 = k
        · rw [e, hb'] at hy2; cases hy2
        · exact h4 y (by omega) hy2
theorem keyV_is {R C : Nat} {Z : Nat → Int} (hZ : ∀ x, x < R * C → 0 ≤ Z x ∧ Z x ≤ 99) (i : Ix (R * C)) : PsTo R C Z i (fun x => hiB Z x.1 i.1) (keyV R C Z i) := by
  unfold keyV
  rcases kyN_spec hZ i (R * C) (Nat.le_refl _) with ⟨h1, h2⟩ | ⟨x, h1, h2, h3, h4⟩
  · rw [if_pos (by omega)]
    refine Or.inr ⟨fun x => h2 x.1 x.2, fun x => mn_le Z x.2, fun q hq => ?_⟩
    obtain ⟨y, hy, e⟩ := mn_is Z (n := R * C) (by have := i.2; omega)
    rw [e]
    exact hq ⟨y, hy⟩
  · have hr := psV_ge hZ i x
    rw [if_neg (by omega)]
    refine Or.inl ⟨x, h2, by rw [h3]; exact psV_is hZ i x, fun y q hy hq => ?_⟩
    have := h4 y y.2 hy
    have e := hq.eq (psV_is hZ i y)
    omega
theorem keyV_range {R C : Nat} {Z : Nat → Int} (hZ : ∀ x, x < R * C → 0 ≤ Z x ∧ Z x ≤ 99) (i : Ix (R * C)) : 0 ≤ keyV R C Z i ∧ keyV R C Z i ≤ 99 := by
  rcases keyV_is hZ i with ⟨x, h1, h2, h3⟩ | ⟨h1, h2, h3⟩
  · have e := h2.eq (psV_is hZ i x)
    have := psV_ge hZ i x
    omega
  · have := h2 i
    have := hZ i.1 i.2
    have := h3 0 (fun x => (hZ x.1 x.2).1)
    omega

open Classical in
noncomputable def G.kyV (g : G) (i : Int) : Int := if h : g.PkIn i then (if g.pkB i = true then keyV g.n (g.len 0) g.flat ⟨i.toNat, by have := h.2; omega⟩ else -1) else -1
theorem G.kyV_no {g : G} {i : Int} (h : g.pkB i = false) : g.kyV i = -1 := by
  unfold G.kyV
  split
  · rw [if_neg (by rw [h]; simp)]
  · rfl
theorem G.kyV_yes {g : G} {i : Ix (g.n * g.len 0)} (h : g.Valid) (hp : g.pkB (i.1 : Int) = true) : g.kyV (i.1 : Int) = keyV g.n (g.len 0) g.flat i := by
  have hin : g.PkIn (i.1 : Int) := ⟨h, by omega, by have := i.2; omega⟩
  unfold G.kyV
  rw [dif_pos hin, if_pos hp]
  congr 1

end Go.Proofs.Ytlbdglhippapnab

/- Keys and prominences in the model. -/
namespace Go.Proofs.Ytlbdglhippapnab
open Go.RowKit
set_option linter.unusedVariables false

theorem pkB_inS {g : G} {i : Int} (h : g.pkB i = true) : g.PkIn i := by
  apply Classical.byContradiction
  intro k
  rw [G.pkB_no k] at h
  cases h

set_option maxHeartbeats 8000000 in
set_option maxRecDepth 100000 in
theorem specPeakKey_any (v : Value) (lo hi : Nat) (g : G) (i : Int) (w : World) (hv : RdM lo hi w v g) (hh : hi ≤ w.heap.size) :
    Calls Try.prog 24 #[v, .int .i64 i] w (IntPost (g.kyV i) w) := by
  have HP := Lib.hid (specPeakIs_any v lo hi g i w hv hh)
  by_cases hp : g.pkB i = true
  case neg =>
    have hp' : g.pkB i = false := by simpa using hp
    have HA := Lib.hid (G.kyV_no hp')
    rw [hp'] at HP
    clear hv hp hp'
    go_enter Try.func24, Try.ntmps24
    go_wp2_with fail
    refine HP.out.mono ?_
    rintro e w1 ⟨rfl, hb1⟩
    have HB1 := Lib.hid hb1
    clear hb1
    go_wp2
    go_ret
    exact ⟨ret_int HA.out.symm, HB1.out⟩
  case pos =>
    have hin := pkB_inS hp
    rw [hp] at HP
    obtain ⟨x, hx⟩ : ∃ x : Ix (g.n * g.len 0), (x.1 : Int) = i := ⟨⟨i.toNat, by have := hin.2; omega⟩, by have := hin.2; show ((i.toNat : Nat) : Int) = i; omega⟩
    subst hx
    have hval := hin.1
    have HA := Lib.hid (G.kyV_yes hval hp)
    have hx48 := x.2
    have h49 := mul_le_49 hval.1.2 hval.2.1.2
    have HZ := Lib.hid (show ∀ a, a < g.n * g.len 0 → 0 ≤ g.flat a ∧ g.flat a ≤ 99 from fun a ha => flat_okW hval ha)
    obtain ⟨N, eN⟩ : ∃ N, g.n * g.len 0 = N := ⟨_, rfl⟩
    have EN := Lib.hid eN
    have HPV := Lib.hid (fun (W : World) (hW : RdM lo hi W v g) (hs : hi ≤ W.heap.size) => show Calls Try.prog 45 #[v, .int .i64 x.1] W (fun e w' => ∃ b, e = .returned (.slice (some ⟨b, 0, none⟩) N N) ∧ W.heap.size ≤ b ∧ w'.rowIs b 3 N (ivF (psV g.n (g.len 0) g.flat x)) ∧ Below W.heap.size W w') from by
      rw [← eN]
      exact l4Passes_any v lo hi g g.n (g.len 0) rfl rfl x W hW hs hval)
    have HHI := Lib.hid (fun (a : Nat) (ha : a < g.n * g.len 0) (W : World) (hW : RdM lo hi W v g) => l4Higher_any v lo hi g a x.1 W hW hval ha x.2)
    have HGR := Lib.hid (fun (W : World) (hW : RdM lo hi W v g) => specGridRange_yes v lo hi g W hW hval)
    have HV := Lib.hid hv
    obtain ⟨xx, exx⟩ : ∃ a, x.1 = a := ⟨_, rfl⟩
    have exx2 := Lib.hid exx
    rw [eN] at h49
    rw [exx] at HP HPV HHI HA ⊢
    clear hv hp hin hval eN exx hx48
    go_enter Try.func24, Try.ntmps24
    go_wp2_with fail
    refine HP.out.mono ?_
    rintro e w1 ⟨rfl, hb1⟩
    have HB1 := Lib.hid hb1
    have hs1 := hb1.size
    have HPV1 := Lib.hid (HPV.out w1 (HV.out.same (SameIn.below hb1 hh)) (by omega))
    clear hb1
    go_wp2_with fail
    refine HPV1.out.mono ?_
    rintro e w2 ⟨b, rfl, hbb, hrow, hb2⟩
    have HB2 := Lib.hid (HB1.out.trans (hb2.mono hs1))
    have HROW := Lib.hid hrow
    have HV2 := Lib.hid (HV.out.same (SameIn.below HB2.out hh))
    clear hb2 hrow
    go_wp2
    go_loopw [6, 7] (fun s6 s7 wr => ∃ k m : Nat, k ≤ N ∧ s7 = .int .i64 k ∧ s6 = .int .i64 (kyN g.n (g.len 0) g.flat x k) ∧ wr = w2.drewN m) (fun _ s7 _ => N - (intOf s7).toNat)
    case atStart => exact ⟨0, 0, Nat.zero_le _, rfl, rfl, rfl⟩
    case round =>
      obtain ⟨k, m, hk, rfl, rfl, rfl⟩ := hrel
      by_cases hlt : k < N
      case pos =>
        have hlt' : (k : Int) < N := by omega
        have c1 : (w2.drewN m).cell? ⟨b, k, none⟩ = some (.int .i64 (psV g.n (g.len 0) g.flat x k)) := HROW.out.cell hlt
        have HHK := Lib.hid (HHI.out k (by rw [EN.out]; exact hlt) (w2.drewN m) (HV2.out.same (fun _ _ _ => rfl)))
        have HKY := Lib.hid (fun (h : hiB g.flat k xx = true) => kyN_yes (R := g.n) (C := g.len 0) (Z := g.flat) (i := x) (k := k) (by rw [exx2.out]; exact h))
        have HKN := Lib.hid (fun (h : hiB g.flat k xx = false) => kyN_no (R := g.n) (C := g.len 0) (Z := g.flat) (i := x) (k := k) (by rw [exx2.out]; exact h))
        obtain ⟨t, et⟩ : ∃ t, hiB g.flat k xx = t := ⟨_, rfl⟩
        rw [et] at HHK HKY HKN
        obtain ⟨p, ep⟩ : ∃ p, psV g.n (g.len 0) g.flat x k = p := ⟨_, rfl⟩
        rw [ep] at c1 HKY
        obtain ⟨q, eq⟩ : ∃ q, kyN g.n (g.len 0) g.flat x k = q := ⟨_, rfl⟩
        rw [eq] at HKY HKN ⊢
        clear et ep eq hlt
        cases t
        case true =>
          have HS := Lib.hid (HKY.out rfl)
          go_wp2_with fail
          refine HHK.out.mono ?_
          rintro e w3 ⟨rfl, m2, rfl⟩
          have c2 : (w2.drewN (m + m2)).cell? ⟨b, k, none⟩ = some (.int .i64 p) := c1
          clear c1
          go_wp2
          go_roundw
          case rel => exact ⟨k + 1, m + m2, by omega, by go_num, by rw [HS.out], rfl⟩
          case measure => simp [intOf]; omega
        case false =>
          have HS := Lib.hid (HKN.out rfl)
          go_wp2_with fail
          refine HHK.out.mono ?_
          rintro e w3 ⟨rfl, m2, rfl⟩
          clear c1
          go_wp2
          go_roundw
          case rel => exact ⟨k + 1, m + m2, by omega, by go_num, by rw [HS.out], rfl⟩
          case measure => simp [intOf]; omega
      case neg =>
        have ek : k = g.n * g.len 0 := by rw [EN.out]; omega
        have hge : ¬ (k : Int) < N := by omega
        have HKV := Lib.hid (show keyV g.n (g.len 0) g.flat x = if kyN g.n (g.len 0) g.flat x k < 0 then mn g.flat (g.n * g.len 0) else kyN g.n (g.len 0) g.flat x k by rw [ek]; rfl)
        obtain ⟨q, eq⟩ : ∃ q, kyN g.n (g.len 0) g.flat x k = q := ⟨_, rfl⟩
        rw [eq] at HKV ⊢
        clear ek eq hlt
        by_cases h0 : q < 0
        case pos =>
          have HE := Lib.hid (show g.kyV (xx : Int) = mn g.flat (g.n * g.len 0) by rw [HA.out, HKV.out, if_pos h0])
          have HG := Lib.hid (HGR.out (w2.drewN m) (HV2.out.same (fun _ _ _ => rfl)))
          go_wp2_with fail
          refine HG.out.mono ?_
          rintro e w3 ⟨rfl, hb3⟩
          have HB3 := Lib.hid ((below_drewN HB2.out m).trans (hb3.mono HB2.out.size))
          clear hb3
          go_wp2
          go_ret
          exact ⟨ret_int HE.out.symm, HB3.out⟩
        case neg =>
          have HE := Lib.hid (show g.kyV (xx : Int) = q by rw [HA.out, HKV.out, if_neg h0])
          have h0' : decide (q < 0) = false := by simpa using h0
          go_wp2
          go_ret
          exact ⟨ret_int HE.out.symm, below_drewN HB2.out m⟩

/-- prominences -/
noncomputable def G.prV (g : G) (i : Int) : Int := if g.pkB i = true then g.flat i.toNat - g.kyV i else -1

set_option maxHeartbeats 1000000 in
set_option maxRecDepth 100000 in
theorem specPeakProminence_any (v : Value) (lo hi : Nat) (g : G) (i : Int) (w : World) (hv : RdM lo hi w v g) (hh : hi ≤ w.heap.size) :
    Calls Try.prog 26 #[v, .int .i64 i] w (IntPost (g.prV i) w) := by
  have HK := Lib.hid (specPeakKey_any v lo hi g i w hv hh)
  by_cases hp : g.pkB i = true
  case neg =>
    have hp' : g.pkB i = false := by simpa using hp
    rw [G.kyV_no hp'] at HK
    have HA := Lib.hid (show g.prV i = -1 by unfold G.prV; rw [if_neg hp])
    clear hv hp hp'
    go_enter Try.func26, Try.ntmps26
    go_wp2_with fail
    refine HK.out.mono ?_
    rintro e w1 ⟨rfl, hb1⟩
    have HB1 := Lib.hid hb1
    clear hb1
    go_wp2
    go_ret
    exact ⟨ret_int HA.out.symm, HB1.out⟩
  case pos =>
    have hin := pkB_inS hp
    obtain ⟨x, hx⟩ : ∃ x : Ix (g.n * g.len 0), (x.1 : Int) = i := ⟨⟨i.toNat, by have := hin.2; omega⟩, by have := hin.2; show ((i.toNat : Nat) : Int) = i; omega⟩
    subst hx
    have hval := hin.1
    have hr := keyV_range (fun a ha => flat_okW hval ha) x
    have hz := flat_okW hval x.2
    have HA := Lib.hid (show g.prV (x.1 : Int) = g.flat x.1 - g.kyV (x.1 : Int) by unfold G.prV; rw [if_pos hp]; rfl)
    rw [← G.kyV_yes hval hp] at hr
    have HHT := Lib.hid (fun (W : World) (hW : RdM lo hi W v g) => l2Height_any v lo hi g x.1 W hW hval x.2)
    have HV := Lib.hid hv
    obtain ⟨k, ek⟩ : ∃ k, g.kyV (x.1 : Int) = k := ⟨_, rfl⟩
    rw [ek] at HK HA hr
    obtain ⟨z, ez⟩ : ∃ z, g.flat x.1 = z := ⟨_, rfl⟩
    rw [ez] at HHT HA hz
    obtain ⟨hr1, hr2⟩ := hr
    obtain ⟨hz1, hz2⟩ := hz
    obtain ⟨xx, exx⟩ : ∃ a, x.1 = a := ⟨_, rfl⟩
    rw [exx] at HK HHT HA ⊢
    have hk0 : ¬ k < 0 := by omega
    clear hv hp hin hval ek ez exx
    go_enter Try.func26, Try.ntmps26
    go_wp2_with fail
    refine HK.out.mono ?_
    rintro e w1 ⟨rfl, hb1⟩
    have HB1 := Lib.hid hb1
    have HH1 := Lib.hid (HHT.out w1 (HV.out.same (SameIn.below hb1 hh)))
    clear hb1
    go_wp2_with fail
    refine HH1.out.mono ?_
    rintro e w2 ⟨rfl, m, rfl⟩
    go_wp2
    go_ret
    exact ⟨ret_int HA.out.symm, below_drewN HB1.out m⟩

end Go.Proofs.Ytlbdglhippapnab
