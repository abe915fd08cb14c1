/- Regions numbered one after another: what is reckoned. -/
import Derived.Test.YtplfphpnpjjinaaRgM
namespace Go.Proofs.Ytplfphpnpjjinaa
set_option linter.unusedVariables false

/-- what a cell bears when the regions of the cells below i have been numbered -/
def lab (R C : Nat) (Z : Nat → Int) (lv : Int) (i j : Nat) : Int := if lv ≤ Z j ∧ cmZ R C Z lv j < i then numZ R C Z lv j else -1
theorem numZ_nonneg {R C : Nat} {Z : Nat → Int} {lv : Int} {j : Nat} (h : lv ≤ Z j) : 0 ≤ numZ R C Z lv j := by rw [numZ_yes h]; omega
theorem lab_zero (R C : Nat) (Z : Nat → Int) (lv : Int) (j : Nat) : lab R C Z lv 0 j = -1 := by unfold lab; rw [if_neg (by omega)]
theorem lab_all {R C : Nat} {Z : Nat → Int} {lv : Int} {N j : Nat} (hj : j < N) : lab R C Z lv N j = numZ R C Z lv j := by
  unfold lab
  have := cmZ_le R C Z lv j
  by_cases h : lv ≤ Z j
  · rw [if_pos ⟨h, by omega⟩]
  · rw [if_neg (fun k => h k.1), numZ_no h]
theorem lab_skip {R C : Nat} {Z : Nat → Int} {lv : Int} {i j : Nat} (h : ¬ (lv ≤ Z i ∧ cmZ R C Z lv i = i)) : lab R C Z lv (i + 1) j = lab R C Z lv i j := by
  unfold lab
  by_cases hl : lv ≤ Z j
  · by_cases hc : cmZ R C Z lv j < i
    · rw [if_pos ⟨hl, by omega⟩, if_pos ⟨hl, hc⟩]
    · have hne : cmZ R C Z lv j ≠ i := fun e => h ⟨by rw [← e]; exact cm_land hl, by rw [← e]; exact cmZ_idem R C Z lv j⟩
      rw [if_neg (by omega), if_neg (by omega)]
  · rw [if_neg (fun k => hl k.1), if_neg (fun k => hl k.1)]
theorem lab_neg {R C : Nat} {Z : Nat → Int} {lv : Int} {i j : Nat} (h : ¬ (lv ≤ Z j ∧ cmZ R C Z lv j < i)) : lab R C Z lv i j = -1 := by unfold lab; rw [if_neg h]
theorem lab_pos {R C : Nat} {Z : Nat → Int} {lv : Int} {i j : Nat} (h : lv ≤ Z j ∧ cmZ R C Z lv j < i) : 0 ≤ lab R C Z lv i j := by unfold lab; rw [if_pos h]; exact numZ_nonneg h.1
theorem lab_range (R C : Nat) (Z : Nat → Int) (lv : Int) (i j : Nat) (hj : j ≤ 1000) : -1 ≤ lab R C Z lv i j ∧ lab R C Z lv i j ≤ 1000 := by
  unfold lab
  split
  · rename_i h
    rw [numZ_yes h.1]
    have h1 := rgN_le R C Z lv (cmZ R C Z lv j)
    have h2 := cmZ_le R C Z lv j
    omega
  · omega

theorem nodup_le : ∀ (N : Nat) (l : List Nat), l.Nodup → (∀ x, x ∈ l → x < N) → l.length ≤ N
  | 0, l, _, h => by
    cases l with
    | nil => simp
    | cons x l => exact absurd (h x (by simp)) (by omega)
  | N + 1, l, hn, h => by
    by_cases hm : N ∈ l
    · have h1 := List.length_erase_of_mem hm
      have h2 := nodup_le N (l.erase N) (hn.erase N) (fun x hx => by
        have h3 := (List.Nodup.mem_erase_iff hn).1 hx
        have h4 := h x h3.2
        have h5 := h3.1
        omega)
      omega
    · exact Nat.le_succ_of_le (nodup_le N l hn (fun x hx => by
        have h3 := h x hx
        have : x ≠ N := fun e => hm (e ▸ hx)
        omega))
theorem ix_nodup_le {M : Nat} {l : List (Ix M)} (h : l.Nodup) : l.length ≤ M := by
  have h1 : (l.map Subtype.val).Nodup := by
    unfold List.Nodup at h ⊢
    rw [List.pairwise_map]
    exact h.imp fun hab e => hab (Subtype.ext e)
  have h2 := nodup_le M (l.map Subtype.val) h1 (fun x hx => by
    obtain ⟨y, _, rfl⟩ := List.mem_map.1 hx
    exact y.2)
  simpa using h2

/-- a list of cells, found from i on -/
structure Found (R C : Nat) (Z : Nat → Int) (lv : Int) (i : Nat) (L : List (Ix (R * C))) : Prop where
  nodup : L.Nodup
  first : ∃ x, x ∈ L ∧ x.1 = i
  all : ∀ x, x ∈ L → lv ≤ Z x.1 ∧ cmZ R C Z lv x.1 = i
theorem Found.one {R C : Nat} {Z : Nat → Int} {lv : Int} (i : Ix (R * C)) (h : lv ≤ Z i.1) (e : cmZ R C Z lv i.1 = i.1) : Found R C Z lv i.1 [i] :=
  ⟨by simp, ⟨i, by simp, rfl⟩, fun x hx => by simp at hx; subst hx; exact ⟨h, e⟩⟩
theorem Found.push {R C : Nat} {Z : Nat → Int} {lv : Int} {i : Nat} {L : List (Ix (R * C))} (h : Found R C Z lv i L) {x y : Ix (R * C)} (hx : x ∈ L) (hy : y ∈ near R C x 4) (hz : lv ≤ Z y.1) (hn : y ∉ L) : Found R C Z lv i (L ++ [y]) := by
  obtain ⟨h1, h2, h3⟩ := h
  refine ⟨?_, ?_, ?_⟩
  · rw [List.nodup_append]
    exact ⟨h1, by simp, fun a ha b hb e => by simp at hb; subst hb; subst e; exact hn ha⟩
  · obtain ⟨z, hz1, hz2⟩ := h2
    exact ⟨z, by simp [hz1], hz2⟩
  · intro z hz1
    rcases List.mem_append.1 hz1 with hz1 | hz1
    · exact h3 z hz1
    · simp at hz1
      subst hz1
      exact ⟨hz, by rw [← cm_adj ⟨hy, (h3 x hx).1, hz⟩]; exact (h3 x hx).2⟩
/-- what the cells bear while a region is being found -/
def labF {R C : Nat} (Z : Nat → Int) (lv : Int) (i : Nat) (L : List (Ix (R * C))) (j : Nat) : Int := open Classical in if (∃ x, x ∈ L ∧ x.1 = j) then (rgN R C Z lv i : Int) else lab R C Z lv i j
theorem labF_push {R C : Nat} {Z : Nat → Int} {lv : Int} {i : Nat} {L : List (Ix (R * C))} (y : Ix (R * C)) (j : Nat) : (if j = y.1 then (rgN R C Z lv i : Int) else labF Z lv i L j) = labF Z lv i (L ++ [y]) j := by
  unfold labF
  by_cases e : j = y.1
  · rw [if_pos e, if_pos ⟨y, by simp, e.symm⟩]
  · rw [if_neg e]
    by_cases h : ∃ x, x ∈ L ∧ x.1 = j
    · obtain ⟨x, h1, h2⟩ := h
      rw [if_pos ⟨x, h1, h2⟩, if_pos ⟨x, by simp [h1], h2⟩]
    · rw [if_neg h, if_neg]
      rintro ⟨x, h1, h2⟩
      rcases List.mem_append.1 h1 with h1 | h1
      · exact h ⟨x, h1, h2⟩
      · simp at h1; subst h1; exact e h2.symm
theorem labF_one {R C : Nat} {Z : Nat → Int} {lv : Int} (i : Ix (R * C)) (j : Nat) : (if j = i.1 then (rgN R C Z lv i.1 : Int) else lab R C Z lv i.1 j) = labF Z lv i.1 [i] j := by
  have := labF_push (Z := Z) (lv := lv) (i := i.1) (L := ([] : List (Ix (R * C)))) i j
  simpa [labF] using this
theorem labF_in {R C : Nat} {Z : Nat → Int} {lv : Int} {i : Nat} {L : List (Ix (R * C))} {y : Ix (R * C)} (h : y ∈ L) : labF Z lv i L y.1 = rgN R C Z lv i := by unfold labF; rw [if_pos ⟨y, h, rfl⟩]
theorem labF_out {R C : Nat} {Z : Nat → Int} {lv : Int} {i : Nat} {L : List (Ix (R * C))} {y : Ix (R * C)} (h : y ∉ L) : labF Z lv i L y.1 = lab R C Z lv i y.1 := by
  unfold labF
  rw [if_neg]
  rintro ⟨x, h1, h2⟩
  exact h (by have : x = y := Subtype.ext h2
              rw [← this]; exact h1)
/-- a found list that is closed holds the whole region -/
theorem Found.done {R C : Nat} {Z : Nat → Int} {lv : Int} {i : Nat} {L : List (Ix (R * C))} (h : Found R C Z lv i L) (hc : ∀ x, x ∈ L → ∀ y, y ∈ near R C x 4 → lv ≤ Z y.1 → y ∈ L) (j : Nat) (hj : j < R * C) : labF Z lv i L j = lab R C Z lv (i + 1) j := by
  obtain ⟨x0, hx0, e0⟩ := h.first
  have hi := (h.all x0 hx0)
  rw [e0] at hi
  have hmem : (∃ x, x ∈ L ∧ x.1 = j) ↔ (lv ≤ Z j ∧ cmZ R C Z lv j = i) := by
    constructor
    · rintro ⟨x, h1, rfl⟩; exact h.all x h1
    · rintro ⟨h1, h2⟩
      exact cm_closed (R := R) (C := C) (Z := Z) (lv := lv) (fun q => ∃ x, x ∈ L ∧ x.1 = q) (fun a b hab => by
        rintro ⟨x, hx1, hx2⟩
        have ea : x = a := Subtype.ext hx2
        subst ea
        exact ⟨b, hc x hx1 b hab.1 hab.2.2, rfl⟩) (x := i) (y := j) (by rw [h2]; exact hi.2) ⟨x0, hx0, e0⟩
  unfold labF lab
  by_cases h1 : ∃ x, x ∈ L ∧ x.1 = j
  · have h2 := hmem.1 h1
    rw [if_pos h1, if_pos ⟨h2.1, by omega⟩, numZ_yes h2.1, h2.2]
  · rw [if_neg h1]
    by_cases h3 : lv ≤ Z j ∧ cmZ R C Z lv j < i
    · rw [if_pos h3, if_pos ⟨h3.1, by omega⟩]
    · rw [if_neg h3, if_neg]
      rintro ⟨h4, h5⟩
      have : cmZ R C Z lv j ≠ i := fun e => h1 (hmem.2 ⟨h4, e⟩)
      exact h3 ⟨h4, by omega⟩

end Go.Proofs.Ytplfphpnpjjinaa
