/- Sheets that agree, are mended and joined: the facts that the promises ask for; the contracts cleanly. -/
import Derived.Test.YtjllmidagcniaaaMdI
import Derived.Test.YtjllmidagcniaaaJnI
import Derived.Test.YtjllmidagcniaaaTwoM
import Derived.Test.YtjllmidagcniaaaSame
import Derived.BigQuiet
namespace Go.Proofs.Ytjllmidagcniaaa
open Go.RowKit
set_option linter.unusedVariables false

theorem _root_.Go.Calls.quiet_ofG {P : Program} {f : FuncId} {args : Array Value} {w : World} {n : Nat} {b : Bool}
    (h : Calls P f args (w.drewN n) (EqPost b (w.drewN n))) : Calls P f args (w.drewN n) fun e w'' => e = .returned (.bool b) ∧ ∃ m, w'' = w.drewN m :=
  h.mono fun _ _ ⟨he, m, hm⟩ => ⟨he, n + m, by rw [hm, World.drewN_drewN]⟩
theorem RdM.drewG {lo hi : Nat} {w : World} {v : Value} {g : G} (h : RdM lo hi w v g) (k : Nat) : RdM lo hi (w.drewN k) v g := h.same fun _ _ _ => rfl
theorem absI_zero {n : Int} : absI n = 0 ↔ n = 0 := by unfold absI; omega
theorem absI_nn (n : Int) : 0 ≤ absI n := by unfold absI; omega
theorem gapS_nn (a b : G) : ∀ r, 0 ≤ gapS a b r
  | 0 => Int.le_refl _
  | r + 1 => by have := gapS_nn a b r; have := absI_nn (dfV a b r); show 0 ≤ gapS a b r + absI (dfV a b r); omega
theorem gapS_zero (a b : G) : ∀ k, gapS a b k = 0 ↔ ∀ r, r < k → dfV a b r = 0
  | 0 => ⟨fun _ r hr => by omega, fun _ => rfl⟩
  | k + 1 => by
    have h1 := gapS_nn a b k
    have h2 := absI_nn (dfV a b k)
    have ih := gapS_zero a b k
    show gapS a b k + absI (dfV a b k) = 0 ↔ _
    constructor
    · intro h r hr
      by_cases e : r = k
      · rw [e]; exact absI_zero.1 (by omega)
      · exact ih.1 (by omega) r (by omega)
    · intro h
      rw [ih.2 (fun r hr => h r (by omega)), absI_zero.2 (h k (by omega))]; rfl
theorem ag_gap {a b : G} (h : agB a b = true) : gapV a b = 0 := by simpa [agB] using h
theorem ag_rows {a b : G} (h : agB a b = true) : ∀ r, r < a.n → a.z r (a.len 0 - 1) = b.z r 0 := fun r hr => by
  have h1 := ag_gap h
  rw [gapV_yes (agB_ok h)] at h1
  have := (gapS_zero a b a.n).1 h1 r hr
  unfold dfV at this
  omega
theorem ag_of {a b : G} (h : RwOk a b) (k : ∀ r, r < a.n → a.z r (a.len 0 - 1) = b.z r 0) : agB a b = true := by
  unfold agB
  rw [gapV_yes h, (gapS_zero a b a.n).2 (fun r hr => by unfold dfV; have := k r hr; omega)]
  simp
theorem rw_mirror {a b : G} (h : RwOk a b) : RwOk (mirrorG b) (mirrorG a) := ⟨mirror_valid h.2.1, mirror_valid h.1, h.2.2.symm⟩
theorem df_mirror {a b : G} (h : RwOk a b) (r : Nat) : dfV (mirrorG b) (mirrorG a) r = 0 - dfV a b r := by
  have h1 := h.1.2.1.1
  have h2 := h.2.1.2.1.1
  unfold dfV
  show b.z r (b.len 0 - 1 - (b.len 0 - 1)) - a.z r (a.len 0 - 1 - 0) = _
  rw [Nat.sub_self, Nat.sub_zero]
  omega
theorem gap_mirrorS {a b : G} (h : RwOk a b) : ∀ k, gapS (mirrorG b) (mirrorG a) k = gapS a b k
  | 0 => rfl
  | k + 1 => by
    show gapS (mirrorG b) (mirrorG a) k + absI _ = gapS a b k + absI _
    rw [gap_mirrorS h k, df_mirror h]
    unfold absI
    omega
theorem gap_mirror {a b : G} (h : RwOk a b) : gapV (mirrorG b) (mirrorG a) = gapV a b := by
  rw [gapV_yes h, gapV_yes (rw_mirror h), gap_mirrorS h]
  show gapS a b b.n = _
  rw [h.2.2]
theorem ag_mirror {a b : G} (h : agB a b = true) : agB (mirrorG b) (mirrorG a) = true := by
  unfold agB
  rw [gap_mirror (agB_ok h), ag_gap h]
  simp
theorem md_a {a b : G} (h : agB a b = true) : G.Eqv (mdA a b a.n) a := ⟨rfl, fun r hr => ⟨rfl, fun c hc => by
  show (if r < a.n ∧ c = a.len 0 - 1 then midV a b r else a.z r c) = a.z r c
  split
  · rename_i hh
    have := ag_rows h r hh.1
    unfold midV
    rw [hh.2]
    omega
  · rfl⟩⟩
theorem md_b {a b : G} (h : agB a b = true) : G.Eqv (mdB a b a.n) b := ⟨rfl, fun r hr => ⟨rfl, fun c hc => by
  show (if r < a.n ∧ c = 0 then midV a b r else b.z r c) = b.z r c
  split
  · rename_i hh
    have := ag_rows h r hh.1
    unfold midV
    rw [hh.2]
    omega
  · rfl⟩⟩
theorem jn_west {a b : G} (h : JoinOk a b) : G.Eqv (partG (joinG a b) 0 (a.n - 1) 0 (a.len 0 - 1)) a := by
  have hk := agB_ok h.1
  have h1 := hk.1.1
  have h2 := hk.1.2.1
  refine ⟨show a.n - 1 - 0 + 1 = a.n by omega, fun r hr => ?_⟩
  have hr' : r < a.n := by have : r < a.n - 1 - 0 + 1 := hr; omega
  have hl := (hk.1.2.2 r hr').1
  refine ⟨show a.len 0 - 1 - 0 + 1 = a.len r by omega, fun c hc => ?_⟩
  have hc' : c < a.len 0 - 1 - 0 + 1 := hc
  show (if 0 + c < a.len 0 then a.z (0 + r) (0 + c) else _) = a.z r c
  rw [if_pos (by omega), Nat.zero_add, Nat.zero_add]
theorem jn_east {a b : G} (h : JoinOk a b) : G.Eqv (partG (joinG a b) 0 (a.n - 1) (a.len 0 - 1) (a.len 0 + b.len 0 - 2)) b := by
  have hk := agB_ok h.1
  have h1 := hk.1.1
  have h2 := hk.1.2.1
  have h3 := hk.2.1.2.1
  have h4 := hk.2.2
  refine ⟨show a.n - 1 - 0 + 1 = b.n by omega, fun r hr => ?_⟩
  have hr' : r < a.n := by have : r < a.n - 1 - 0 + 1 := hr; omega
  have hl := (hk.2.1.2.2 r (by omega)).1
  refine ⟨show a.len 0 + b.len 0 - 2 - (a.len 0 - 1) + 1 = b.len r by omega, fun c hc => ?_⟩
  have hc' : c < a.len 0 + b.len 0 - 2 - (a.len 0 - 1) + 1 := hc
  show (if a.len 0 - 1 + c < a.len 0 then a.z (0 + r) (a.len 0 - 1 + c) else b.z (0 + r) (a.len 0 - 1 + c - a.len 0 + 1)) = b.z r c
  rw [Nat.zero_add]
  by_cases e : c = 0
  · subst e
    rw [if_pos (by omega), Nat.add_zero]
    exact ag_rows h.1 r hr'
  · rw [if_neg (by omega)]
    congr 1
    omega
theorem jn_val {a b : G} (h : JoinOk a b) : (joinG a b).Valid := (join_valid (agB_ok h.1)).2 h.2

theorem implMend_yes (v u : Value) (lo hi : Nat) (a b : G) (w : World) (hv : RdM lo hi w v a) (hu : RdM lo hi w u b) (hh : hi ≤ w.heap.size) (h : RwOk a b) :
    Calls Try.prog 15 #[v, u] w (SPost2 true (mdA a b a.n) (mdB a b a.n) w) :=
  (implGridsMend_any v u lo hi a b w hv hu hh).mono fun _ _ k => by
    obtain ⟨v, u, m, h1, h2, h3, h4, h5, h6, h7, h8⟩ := k.1 h
    exact ⟨v, u, h1, h2, h3, h6.rd.mono (Nat.le_refl _) h5, h7.rd.mono h4 (Nat.le_refl _), h8⟩
theorem specJoin_any (v u : Value) (lo hi : Nat) (a b : G) (w : World) (hv : RdM lo hi w v a) (hu : RdM lo hi w u b) (hh : hi ≤ w.heap.size) :
    Calls Try.prog 21 #[v, u] w (JnPost a b w) := by
  cases h : agB a b
  · exact specGridsJoin_no v u lo hi a b w hv hu hh h
  · exact specGridsJoin_yes v u lo hi a b w hv hu hh h
theorem implAgree_b (v u : Value) (lo hi : Nat) (a b : G) (w : World) (hv : RdM lo hi w v a) (hu : RdM lo hi w u b) (hh : hi ≤ w.heap.size) (x : Bool) (h : agB a b = x) :
    Calls Try.prog 13 #[v, u] w (BlPost x w) := by
  have := implGridsAgree_any v u lo hi a b w hv hu hh; rwa [h] at this
theorem specAgree_b (v u : Value) (lo hi : Nat) (a b : G) (w : World) (hv : RdM lo hi w v a) (hu : RdM lo hi w u b) (x : Bool) (h : agB a b = x) :
    Calls Try.prog 14 #[v, u] w (BlPost x w) := by
  have := specGridsAgree_any v u lo hi a b w hv hu; rwa [h] at this
theorem implGap_i (v u : Value) (lo hi : Nat) (a b : G) (w : World) (hv : RdM lo hi w v a) (hu : RdM lo hi w u b) (hh : hi ≤ w.heap.size) (x : Int) (h : gapV a b = x) :
    Calls Try.prog 17 #[v, u] w (IntPost x w) := by
  have := implGridsGap_any v u lo hi a b w hv hu hh; rwa [h] at this

end Go.Proofs.Ytjllmidagcniaaa
