/- Full names: how they are taken apart. -/
import Derived.Test.YteoncpifjifjlaaDoorWi
import Derived.Test.YteoncpifjifjlaaDoorLm
namespace Go.Proofs.YteoncpifjifjlaaDoor
open Go.RowKit
set_option linter.unusedVariables false

/-- the full name of a place -/
def IsFl (s : ByteArray) (X Y : Nat) : Prop := X < 104 ∧ Y < 104 ∧ s = flS X Y
def NoFl (s : ByteArray) : Prop := ∀ X Y, X < 104 → Y < 104 → s ≠ flS X Y

theorem ltU_inj {a b : Nat} (ha : a < 4) (hb : b < 4) (h : ltU a = ltU b) : a = b := by
  have := congrArg UInt8.toNat h
  rw [ltU_val ha, ltU_val hb] at this
  omega
theorem flS_size (X Y : Nat) : (flS X Y).size = (nmS (X / 4) (Y / 4)).size + 2 := by
  unfold flS flL nmS
  show (List.toArray _).size = (List.toArray _).size + 2
  simp
theorem nmS_size2 (c r : Nat) : 2 ≤ (nmS c r).size ∧ (nmS c r).size ≤ 3 := by rw [nmS_size]; split <;> omega
/-- a string by its head and its last two bytes -/
theorem fl_iff {s : ByteArray} {n : Nat} (hs : s.size = n + 2) (X Y : Nat) :
    s = flS X Y ↔ s.extract 0 n = nmS (X / 4) (Y / 4) ∧ (s[n]'(by omega)) = ltU (ltA X Y) ∧ (s[n + 1]'(by omega)) = ltU (ltB X Y) := by
  constructor
  · intro h
    subst h
    have hn : (nmS (X / 4) (Y / 4)).size = n := by rw [flS_size] at hs; omega
    have hl : (nmL (X / 4) (Y / 4)).length = n := by rw [← hn]; rfl
    refine ⟨?_, ?_, ?_⟩
    · refine ByteArray.ext_getElem (by simp; omega) fun i hi hi' => ?_
      rw [ByteArray.getElem_extract]
      simp only [ByteArray.getElem_eq_getElem_data, flS, flL, nmS, Nat.zero_add, List.getElem_toArray]
      rw [List.getElem_append_left (by omega)]
    · simp only [ByteArray.getElem_eq_getElem_data, flS, flL, List.getElem_toArray]
      rw [List.getElem_append_right (by omega)]
      simp [hl]
    · simp only [ByteArray.getElem_eq_getElem_data, flS, flL, List.getElem_toArray]
      rw [List.getElem_append_right (by omega)]
      simp [hl]
  · rintro ⟨h1, h2, h3⟩
    have hn : (nmS (X / 4) (Y / 4)).size = n := by rw [← h1]; simp; omega
    have hl : (nmL (X / 4) (Y / 4)).length = n := by rw [← hn]; rfl
    refine ByteArray.ext_getElem (by rw [flS_size, hs, hn]) fun i hi hi' => ?_
    rcases (by omega : i < n ∨ i = n ∨ i = n + 1) with h | rfl | rfl
    · have e : (s.extract 0 n)[i]'(by simp; omega) = s[0 + i]'(by omega) := ByteArray.getElem_extract (by simp; omega)
      have e2 : (s.extract 0 n)[i]'(by simp; omega) = (nmS (X / 4) (Y / 4))[i]'(by omega) := by simp only [h1]
      rw [e2] at e
      simp only [Nat.zero_add] at e
      rw [← e]
      simp only [ByteArray.getElem_eq_getElem_data, flS, flL, nmS, List.getElem_toArray]
      rw [List.getElem_append_left (by omega)]
    · rw [h2]
      simp only [ByteArray.getElem_eq_getElem_data, flS, flL, List.getElem_toArray]
      rw [List.getElem_append_right (by omega)]
      simp [hl]
    · rw [h3]
      simp only [ByteArray.getElem_eq_getElem_data, flS, flL, List.getElem_toArray]
      rw [List.getElem_append_right (by omega)]
      simp [hl]

theorem flS_inj {X Y X' Y' : Nat} (hX : X < 104) (hY : Y < 104) (hX' : X' < 104) (hY' : Y' < 104) (h : flS X Y = flS X' Y') : X = X' ∧ Y = Y' := by
  have hs := flS_size X Y
  obtain ⟨h1, h2, h3⟩ := (fl_iff hs X' Y').1 h
  obtain ⟨g1, g2, g3⟩ := (fl_iff hs X Y).1 rfl
  have e1 := nmS_inj (by omega) (by omega) (by omega) (by omega) (g1.symm.trans h1)
  have e2 := ltU_inj (ltA_lt _ _) (ltA_lt _ _) (g2.symm.trans h2)
  have e3 := ltU_inj (ltB_lt _ _) (ltB_lt _ _) (g3.symm.trans h3)
  unfold ltA ltN at e2
  unfold ltB ltN at e3
  omega

/-- a string whose head is a sheet's name and whose last two bytes are letters -/
theorem fl_of {s : ByteArray} {n c r : Nat} (hs : s.size = n + 2) (h : IsNm (s.extract 0 n) c r) (a b : Nat) (ha : (s[n]'(by omega)).toNat = a) (hb : (s[n + 1]'(by omega)).toNat = b) (haq : Lq a) (hbq : Lq b) :
    ∃ X Y, IsFl s X Y ∧ ((c : Int) * 4 + lqx 2 a + lqx 1 b = X) ∧ ((r : Int) * 4 + lqy 2 a + lqy 1 b = Y) := by
  obtain ⟨hc, hr, he⟩ := h
  unfold Lq at haq hbq
  have key : ∀ X Y : Nat, X / 4 = c → Y / 4 = r → 97 + ltA X Y = a → 97 + ltB X Y = b → s = flS X Y := by
    intro X Y e1 e2 e3 e4
    refine (fl_iff hs X Y).2 ⟨by rw [e1, e2]; exact he, ?_, ?_⟩
    · apply byte_eq; rw [ltU_val (ltA_lt _ _), ha, e3]
    · apply byte_eq; rw [ltU_val (ltB_lt _ _), hb, e4]
  refine ⟨4 * c + 2 * ((a - 97) % 2) + (b - 97) % 2, 4 * r + 2 * ((a - 97) / 2) + (b - 97) / 2, ⟨by omega, by omega, key _ _ (by omega) (by omega) ?_ ?_⟩, ?_, ?_⟩
  · unfold ltA ltN; omega
  · unfold ltB ltN; omega
  · unfold lqx
    rcases (by omega : a = 97 ∨ a = 98 ∨ a = 99 ∨ a = 100) with rfl | rfl | rfl | rfl <;> rcases (by omega : b = 97 ∨ b = 98 ∨ b = 99 ∨ b = 100) with rfl | rfl | rfl | rfl <;> simp <;> omega
  · unfold lqy
    rcases (by omega : a = 97 ∨ a = 98 ∨ a = 99 ∨ a = 100) with rfl | rfl | rfl | rfl <;> rcases (by omega : b = 97 ∨ b = 98 ∨ b = 99 ∨ b = 100) with rfl | rfl | rfl | rfl <;> simp <;> omega
theorem fl_no_head {s : ByteArray} {n : Nat} (hs : s.size = n + 2) (h : NoNm (s.extract 0 n)) : NoFl s := fun X Y hX hY e =>
  h (X / 4) (Y / 4) (by omega) (by omega) ((fl_iff hs X Y).1 e).1
theorem fl_no_letter {s : ByteArray} {n : Nat} (hs : s.size = n + 2) (h : ¬ Lq (s[n]'(by omega)).toNat ∨ ¬ Lq (s[n + 1]'(by omega)).toNat) : NoFl s := fun X Y hX hY e => by
  obtain ⟨_, h2, h3⟩ := (fl_iff hs X Y).1 e
  have l1 := ltA_lt X Y
  have l2 := ltB_lt X Y
  rcases h with h | h
  · apply h; rw [h2, ltU_val l1]; unfold Lq; omega
  · apply h; rw [h3, ltU_val l2]; unfold Lq; omega
theorem fl_no_short {s : ByteArray} (h : s.size < 4) : NoFl s := fun X Y _ _ e => by
  have h1 := flS_size X Y
  have h2 := nmS_size2 (X / 4) (Y / 4)
  rw [e] at h
  omega
theorem nm_no_short {s : ByteArray} (h : s.size < 2) : NoNm s := fun c r _ _ e => by
  have h2 := nmS_size2 c r
  rw [e] at h
  omega
/-- a full name's head -/
theorem fl_head {s : ByteArray} {X Y : Nat} (h : IsFl s X Y) : ∃ n, s.size = n + 2 ∧ 2 ≤ n ∧ IsNm (s.extract 0 n) (X / 4) (Y / 4) := by
  obtain ⟨hX, hY, he⟩ := h
  have h1 := flS_size X Y
  have h2 := nmS_size2 (X / 4) (Y / 4)
  refine ⟨_, by rw [he]; exact h1, h2.1, by omega, by omega, ((fl_iff (by rw [he]; exact h1) X Y).1 he).1⟩

end Go.Proofs.YteoncpifjifjlaaDoor
