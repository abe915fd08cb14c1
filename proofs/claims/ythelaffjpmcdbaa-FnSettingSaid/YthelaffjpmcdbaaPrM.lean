/- Lists of numbers as arguments and answers; profiles and sight in mathematics. -/
import Derived.Test.YthelaffjpmcdbaaM1
import Derived.Test.YthelaffjpmcdbaaM2
import Derived.Test.YthelaffjpmcdbaaGrZ
namespace Go.Proofs.Ythelaffjpmcdbaa
open Go.RowKit
set_option linter.unusedVariables false

theorem RdI.shape {lo hi : Nat} {w : World} {v : Value} {n : Nat} {Z : Nat → Int} (h : RdI lo hi w v n Z) : ∃ a c, v = .slice a n c := by
  obtain ⟨ao, cap, _, _, h, _⟩ := h
  exact ⟨ao, cap, h⟩

theorem RdI.open {lo hi : Nat} {w : World} {v : Value} {n : Nat} {Z : Nat → Int} (h : RdI lo hi w v n Z) (h0 : 0 < n) :
    ∃ b off cap, v = .slice (some ⟨b, off, none⟩) n cap ∧ n ≤ cap ∧ lo ≤ b ∧ b < hi ∧ ∀ i, i < n → w.cell? ⟨b, off + i, none⟩ = some (.int .i64 (Z i)) := by
  obtain ⟨ao, cap, b, off, rfl, h2, h3, h4, h5, h6⟩ := h
  obtain ⟨rfl, a, b⟩ := h5 h0
  exact ⟨_, _, _, rfl, h2, a, b, h6⟩

theorem RdI.range {lo hi : Nat} {w : World} {v : Value} {n : Nat} {Z : Nat → Int} (h : RdI lo hi w v n Z) : ∀ i, i < n → -9223372036854775808 ≤ Z i ∧ Z i ≤ 9223372036854775807 := by
  obtain ⟨ao, cap, b, off, rfl, h2, h3, h4, h5, h6⟩ := h
  exact h4

/-- the list that a list of numbers is -/
def nsV (l : List Int) : List Value := l.map (.int .i64)
def nsZ (l : List Int) (i : Nat) : Int := l.getD i 0
/-- a list of numbers that the call is making -/
def Nums (B : Nat) (w : World) (v : Value) (l : List Int) : Prop := w.ownsRow B 3 1 v l.length (nsV l)
def NsOk (l : List Int) : Prop := ∀ x ∈ l, -9223372036854775808 ≤ x ∧ x ≤ 9223372036854775807

theorem Nums.shape {B : Nat} {w : World} {v : Value} {l : List Int} (h : Nums B w v l) : ∃ a c, v = .slice a l.length c := own_shape h
theorem Nums.below {B C : Nat} {w w' : World} {v : Value} {l : List Int} (h : Nums B w v l) (hb : Below C w w') (hC : w.heap.size ≤ C) : Nums B w' v l :=
  ownsRow_below h hb (fun k hk => by have := (h.lt k hk).2; omega)
theorem nsV_at (l : List Int) (i : Nat) (hi : i < l.length) : (nsV l)[i]? = some (.int .i64 (nsZ l i)) := by
  simp [nsV, nsZ, List.getD_eq_getElem?_getD, List.getElem?_eq_getElem hi]
theorem nsZ_ok {l : List Int} (h : NsOk l) : ∀ i, i < l.length → -9223372036854775808 ≤ nsZ l i ∧ nsZ l i ≤ 9223372036854775807 := fun i hi => by
  refine h _ ?_
  rw [nsZ, List.getD_eq_getElem?_getD, List.getElem?_eq_getElem hi]
  exact List.getElem_mem _
theorem Nums.rdI {B : Nat} {w : World} {v : Value} {l : List Int} (h : Nums B w v l) (hok : NsOk l) : RdI B w.heap.size w v l.length (nsZ l) :=
  Rw.rdI ⟨_, h, fun i hi => nsV_at l i hi⟩ (nsZ_ok hok)
theorem nums_lit (w : World) : Nums w.heap.size (w.alloc (.cells #[] 3)) (.slice (some ⟨w.heap.size, 0, none⟩) 0 0) [] := World.ownsRow_lit w #[] 0 (Nat.le_refl _) (Nat.zero_le _) (by simp)

theorem nums_push {B : Nat} {w : World} {v : Value} {L : List Int} {x : Int} (h : w.ownsRow B 3 1 v (L.length + 1) (nsV L ++ [.int .i64 x])) : Nums B w v (L ++ [x]) := by
  unfold Nums nsV
  rw [List.length_append, List.map_append]
  exact h
theorem nums_none (B : Nat) (w : World) : Nums B w (.slice none 0 0) [] := ⟨rfl, Or.inl ⟨rfl, rfl⟩⟩
theorem EqPost.bl {b : Bool} {w w' : World} {e : Ending} (h : EqPost b w e w') : BlPost b w e w' := ⟨h.1, by obtain ⟨n, rfl⟩ := h.2; exact below_drewN (Below.refl _ _) n⟩
theorem SmPost.bl {b : Bool} {w w' : World} {e : Ending} (h : SmPost b w e w') : BlPost b w e w' := ⟨h.1, by obtain rfl := h.2; exact Below.refl _ _⟩

/-- a list of numbers alone, of the call's own making -/
def NsPost (l : List Int) (w : World) (e : Ending) (w' : World) : Prop :=
  ∃ v, e = .returned v ∧ Nums w.heap.size w' v l ∧ Below w.heap.size w w'
/-- the same with a bool -/
def NbPost (b : Bool) (l : List Int) (w : World) (e : Ending) (w' : World) : Prop :=
  ∃ v, e = .returned (.tuple #[v, .bool b]) ∧ Nums w.heap.size w' v l ∧ Below w.heap.size w w'
theorem NsPost.mk' {L l : List Int} {w w' : World} {v : Value} (e : L = l) (h : Nums w.heap.size w' v l) (hb : Below w.heap.size w w') : NsPost L w (.returned v) w' := ⟨v, rfl, e ▸ h, hb⟩
theorem NbPost.mk' {b b' : Bool} {L l : List Int} {w w' : World} {v : Value} (eb : b = b') (e : L = l) (h : Nums w.heap.size w' v l) (hb : Below w.heap.size w w') : NbPost b L w (.returned (.tuple #[v, .bool b'])) w' := ⟨v, by rw [eb], e ▸ h, hb⟩

theorem NsPost.ls {l : List Int} {w w' : World} {e : Ending} (h : NsPost l w e w') (hok : NsOk l) : LsPost1 l.length (nsZ l) w e w' := by
  obtain ⟨v, rfl, hn, hb⟩ := h
  obtain ⟨a, c, rfl⟩ := hn.shape
  exact ⟨_, rfl, ⟨_, _, _, rfl⟩, hn.rdI hok, hb⟩
theorem Nums.owI {B : Nat} {w : World} {v : Value} {l : List Int} (h : Nums B w v l) (hok : NsOk l) : OwI B w.heap.size w v l.length (nsZ l) := by
  obtain ⟨hlen, ⟨rfl, h0⟩ | ⟨b, cap, cur, rfl, hB, hb, hc, hcap, hcs, ht⟩⟩ := h
  · exact Or.inl ⟨rfl, h0⟩
  · have hlt : b < w.heap.size := (Array.getElem?_eq_some_iff.1 hb).1
    refine Or.inr ⟨b, cur.size, cap, fun i => (cur[i]?).getD (.int .i64 0), rfl, hB, hlt, ⟨cur, hb, rfl, fun i hi => by simp [hi]⟩, by rw [hcs]; omega, hc, by unfold maxLen at hcap; omega, fun i hi => ?_, nsZ_ok hok⟩
    have e1 : cur.toList[i]? = (nsV l)[i]? := by rw [← ht, List.getElem?_take_of_lt (by omega)]
    have e2 : cur[i]? = some (.int .i64 (nsZ l i)) := by rw [← Array.getElem?_toList, e1, nsV_at l i hi]
    show (cur[i]?).getD _ = _
    rw [e2]; rfl
theorem NsPost.lg {l : List Int} {w w' : World} {e : Ending} (h : NsPost l w e w') (hok : NsOk l) : LgPost1 l.length (nsZ l) w e w' := by
  obtain ⟨v, rfl, hn, hb⟩ := h
  obtain ⟨a, c, rfl⟩ := hn.shape
  exact ⟨_, rfl, ⟨_, _, _, rfl⟩, hn.owI hok, hb⟩
theorem NbPost.lg {b : Bool} {l : List Int} {w w' : World} {e : Ending} (h : NbPost b l w e w') (hok : NsOk l) : LgPost b l.length (nsZ l) w e w' := by
  obtain ⟨v, rfl, hn, hb⟩ := h
  obtain ⟨a, c, rfl⟩ := hn.shape
  exact ⟨_, rfl, ⟨_, _, _, rfl⟩, hn.owI hok, hb⟩
theorem NbPost.ls {b : Bool} {l : List Int} {w w' : World} {e : Ending} (h : NbPost b l w e w') (hok : NsOk l) : LsPost b l.length (nsZ l) w e w' := by
  obtain ⟨v, rfl, hn, hb⟩ := h
  obtain ⟨a, c, rfl⟩ := hn.shape
  exact ⟨_, rfl, ⟨_, _, _, rfl⟩, hn.rdI hok, hb⟩

/-- a number and a bool; two numbers and a bool -/
def IbPost (m : Int) (b : Bool) (w : World) (e : Ending) (w' : World) : Prop := e = .returned (.tuple #[.int .i64 m, .bool b]) ∧ Below w.heap.size w w'

theorem mul_rng (x y : Int) (h1 : -200 ≤ x) (h2 : x ≤ 200) (h3 : -200 ≤ y) (h4 : y ≤ 200) : -40000 ≤ x * y ∧ x * y ≤ 40000 := by
  have a1 := Int.mul_nonneg (show 0 ≤ 200 - x by omega) (show 0 ≤ 200 - y by omega)
  have a2 := Int.mul_nonneg (show 0 ≤ 200 + x by omega) (show 0 ≤ 200 + y by omega)
  have a3 := Int.mul_nonneg (show 0 ≤ 200 - x by omega) (show 0 ≤ 200 + y by omega)
  have a4 := Int.mul_nonneg (show 0 ≤ 200 + x by omega) (show 0 ≤ 200 - y by omega)
  simp only [Int.sub_mul, Int.add_mul, Int.mul_sub, Int.mul_add] at a1 a2 a3 a4
  omega

/-- a profile: 1 to 20 heights -/
def PrOk (n : Nat) (z : Nat → Int) : Prop := (1 ≤ n ∧ n ≤ 20) ∧ ∀ i, i < n → 0 ≤ z i ∧ z i ≤ 99
noncomputable def prB (n : Nat) (z : Nat → Int) : Bool := @decide (PrOk n z) (Classical.propDecidable _)
theorem prB_yes {n : Nat} {z : Nat → Int} (h : PrOk n z) : prB n z = true := by simp [prB, h]
theorem prB_no {n : Nat} {z : Nat → Int} (h : ¬ PrOk n z) : prB n z = false := by simp [prB, h]
/-- a point of a profile -/
def PrAt (n : Nat) (z : Nat → Int) (i : Int) : Prop := PrOk n z ∧ 0 ≤ i ∧ i < n
noncomputable def ptB (n : Nat) (z : Nat → Int) (i : Int) : Bool := @decide (PrAt n z i) (Classical.propDecidable _)
theorem ptB_yes {n : Nat} {z : Nat → Int} {i : Int} (h : PrAt n z i) : ptB n z i = true := by simp [ptB, h]
theorem ptB_no {n : Nat} {z : Nat → Int} {i : Int} (h : ¬ PrAt n z i) : ptB n z i = false := by simp [ptB, h]

/-- the point j lies not above the line between two eyes -/
def Und (z : Nat → Int) (a : Nat) (ha : Int) (b : Nat) (hb : Int) (j : Nat) : Prop := z j * ((b : Int) - a) ≤ ha * ((b : Int) - j) + hb * ((j : Int) - a)
/-- no point between the eyes is in the way -/
def Free (z : Nat → Int) (a : Nat) (ha : Int) (b : Nat) (hb : Int) : Prop := ∀ j, a < j → j < b → Und z a ha b hb j
def Sees (z : Nat → Int) (i k : Nat) (e : Int) : Prop := (i ≤ k → Free z i (z i + e) k (z k)) ∧ (k < i → Free z k (z k) i (z i + e))
noncomputable def seB (z : Nat → Int) (i k : Nat) (e : Int) : Bool := @decide (Sees z i k e) (Classical.propDecidable _)
theorem seB_yes {z : Nat → Int} {i k : Nat} {e : Int} (h : Sees z i k e) : seB z i k e = true := by simp [seB, h]
theorem seB_no {z : Nat → Int} {i k : Nat} {e : Int} (h : ¬ Sees z i k e) : seB z i k e = false := by simp [seB, h]
theorem seB_iff {z : Nat → Int} {i k : Nat} {e : Int} : seB z i k e = true ↔ Sees z i k e := by simp [seB]
theorem sees_symm {z : Nat → Int} {i k : Nat} (h : Sees z i k 0) : Sees z k i 0 := by
  obtain ⟨h1, h2⟩ := h
  simp only [Int.add_zero] at h1 h2
  refine ⟨fun h => ?_, fun h => ?_⟩
  · simp only [Int.add_zero]
    by_cases e : k = i
    · subst e; exact h1 (Nat.le_refl _)
    · exact h2 (by omega)
  · simp only [Int.add_zero]
    exact h1 (by omega)
theorem sees_self (z : Nat → Int) (i : Nat) (e : Int) : Sees z i i e := ⟨fun _ j h1 h2 => by omega, fun h => by omega⟩

/-- the points that a point sees among the first k -/
noncomputable def snL (z : Nat → Int) (i : Nat) : Nat → List Int
  | 0 => []
  | k + 1 => if seB z i k 0 = true then snL z i k ++ [(k : Int)] else snL z i k
theorem snL_yes {z : Nat → Int} {i k : Nat} (h : Sees z i k 0) : snL z i (k + 1) = snL z i k ++ [(k : Int)] := by
  show (if seB z i k 0 = true then _ else _) = _
  rw [if_pos (seB_yes h)]
theorem snL_no {z : Nat → Int} {i k : Nat} (h : ¬ Sees z i k 0) : snL z i (k + 1) = snL z i k := by
  show (if seB z i k 0 = true then _ else _) = _
  rw [if_neg (by rw [seB_no h]; simp)]
theorem snL_len (z : Nat → Int) (i : Nat) : ∀ k, (snL z i k).length ≤ k := by
  intro k
  induction k with
  | zero => simp [snL]
  | succ k ih =>
    by_cases h : Sees z i k 0
    · rw [snL_yes h]; simp; exact ih
    · rw [snL_no h]; omega
theorem snL_mem (z : Nat → Int) (i : Nat) : ∀ k x, x ∈ snL z i k ↔ ∃ j, j < k ∧ x = (j : Int) ∧ Sees z i j 0 := by
  intro k
  induction k with
  | zero => intro x; simp [snL]
  | succ k ih =>
    intro x
    by_cases h : Sees z i k 0
    · rw [snL_yes h, List.mem_append, ih]
      constructor
      · rintro (⟨j, a, b, c⟩ | hx)
        · exact ⟨j, by omega, b, c⟩
        · exact ⟨k, by omega, by simpa using hx, h⟩
      · rintro ⟨j, a, b, c⟩
        by_cases e : j = k
        · subst e; exact Or.inr (by simp [b])
        · exact Or.inl ⟨j, by omega, b, c⟩
    · rw [snL_no h, ih]
      constructor
      · rintro ⟨j, a, b, c⟩; exact ⟨j, by omega, b, c⟩
      · rintro ⟨j, a, b, c⟩
        by_cases e : j = k
        · subst e; exact absurd c h
        · exact ⟨j, by omega, b, c⟩
theorem snL_ok (z : Nat → Int) (i k : Nat) (hk : k ≤ 1000) : NsOk (snL z i k) := fun x hx => by
  obtain ⟨j, a, rfl, _⟩ := (snL_mem z i k x).1 hx
  omega
theorem snL_mono (z : Nat → Int) (i a : Nat) : ∀ b, a ≤ b → (snL z i a).length ≤ (snL z i b).length := by
  intro b
  induction b with
  | zero => intro h; obtain rfl : a = 0 := by omega
            exact Nat.le_refl _
  | succ b ih =>
    intro h
    by_cases e : a = b + 1
    · subst e; exact Nat.le_refl _
    · have := ih (by omega)
      by_cases h : Sees z i b 0
      · rw [snL_yes h]; simp; omega
      · rw [snL_no h]; exact this

/-- how many of the first i points see k -/
noncomputable def paN (z : Nat → Int) (k : Nat) : Nat → Nat
  | 0 => 0
  | i + 1 => paN z k i + if seB z k i 0 = true then 1 else 0
noncomputable def prN (z : Nat → Int) : Nat → Nat
  | 0 => 0
  | k + 1 => prN z k + paN z k k
theorem paN_yes {z : Nat → Int} {i k : Nat} (h : Sees z k i 0) : paN z k (i + 1) = paN z k i + 1 := by
  show paN z k i + (if seB z k i 0 = true then 1 else 0) = _
  rw [if_pos (seB_yes h)]
theorem paN_no {z : Nat → Int} {i k : Nat} (h : ¬ Sees z k i 0) : paN z k (i + 1) = paN z k i := by
  show paN z k i + (if seB z k i 0 = true then 1 else 0) = _
  rw [if_neg (by rw [seB_no h]; simp)]; omega
theorem paN_le (z : Nat → Int) (k : Nat) : ∀ i, paN z k i ≤ i := by
  intro i
  induction i with
  | zero => exact Nat.le_refl _
  | succ i ih =>
    by_cases h : Sees z k i 0
    · rw [paN_yes h]; omega
    · rw [paN_no h]; omega
theorem prN_le (z : Nat → Int) : ∀ k, prN z k ≤ k * k := by
  intro k
  induction k with
  | zero => exact Nat.le_refl _
  | succ k ih =>
    have h1 := paN_le z k k
    have h2 : prN z (k + 1) = prN z k + paN z k k := rfl
    rw [h2, Nat.succ_mul, Nat.mul_succ]
    omega

/-- a point of the hull: above every line between a point ahead and one behind -/
def Hul (n : Nat) (z : Nat → Int) (j : Nat) : Prop := ∀ i k, i < j → j < k → k < n → ¬ Und z i (z i) k (z k) j
noncomputable def huB (n : Nat) (z : Nat → Int) (j : Nat) : Bool := @decide (Hul n z j) (Classical.propDecidable _)
theorem huB_yes {n : Nat} {z : Nat → Int} {j : Nat} (h : Hul n z j) : huB n z j = true := by simp [huB, h]
theorem huB_no {n : Nat} {z : Nat → Int} {j : Nat} (h : ¬ Hul n z j) : huB n z j = false := by simp [huB, h]
noncomputable def huL (n : Nat) (z : Nat → Int) : Nat → List Int
  | 0 => []
  | j + 1 => if huB n z j = true then huL n z j ++ [(j : Int)] else huL n z j
theorem huL_yes {n : Nat} {z : Nat → Int} {j : Nat} (h : Hul n z j) : huL n z (j + 1) = huL n z j ++ [(j : Int)] := by
  show (if huB n z j = true then _ else _) = _
  rw [if_pos (huB_yes h)]
theorem huL_no {n : Nat} {z : Nat → Int} {j : Nat} (h : ¬ Hul n z j) : huL n z (j + 1) = huL n z j := by
  show (if huB n z j = true then _ else _) = _
  rw [if_neg (by rw [huB_no h]; simp)]
theorem huL_len (n : Nat) (z : Nat → Int) : ∀ k, (huL n z k).length ≤ k := by
  intro k
  induction k with
  | zero => simp [huL]
  | succ k ih =>
    by_cases h : Hul n z k
    · rw [huL_yes h]; simp; exact ih
    · rw [huL_no h]; omega
theorem huL_mem (n : Nat) (z : Nat → Int) : ∀ k x, x ∈ huL n z k ↔ ∃ j, j < k ∧ x = (j : Int) ∧ Hul n z j := by
  intro k
  induction k with
  | zero => intro x; simp [huL]
  | succ k ih =>
    intro x
    by_cases h : Hul n z k
    · rw [huL_yes h, List.mem_append, ih]
      constructor
      · rintro (⟨j, a, b, c⟩ | hx)
        · exact ⟨j, by omega, b, c⟩
        · exact ⟨k, by omega, by simpa using hx, h⟩
      · rintro ⟨j, a, b, c⟩
        by_cases e : j = k
        · subst e; exact Or.inr (by simp [b])
        · exact Or.inl ⟨j, by omega, b, c⟩
    · rw [huL_no h, ih]
      constructor
      · rintro ⟨j, a, b, c⟩; exact ⟨j, by omega, b, c⟩
      · rintro ⟨j, a, b, c⟩
        by_cases e : j = k
        · subst e; exact absurd c h
        · exact ⟨j, by omega, b, c⟩
theorem huL_ok (n : Nat) (z : Nat → Int) (k : Nat) (hk : k ≤ 1000) : NsOk (huL n z k) := fun x hx => by
  obtain ⟨j, a, rfl, _⟩ := (huL_mem n z k x).1 hx
  omega

/-- the best point among the first k, and what it sees -/
noncomputable def bsV (n : Nat) (z : Nat → Int) : Nat → Nat
  | 0 => 0
  | k + 1 => if (snL z (bsV n z k) n).length < (snL z k n).length then k else bsV n z k

/-- rises and falls of the first k + 1 points -/
def upV (z : Nat → Int) : Nat → Int
  | 0 => 0
  | k + 1 => upV z k + max 0 (z (k + 1) - z k)
def dnV (z : Nat → Int) : Nat → Int
  | 0 => 0
  | k + 1 => dnV z k + max 0 (z k - z (k + 1))

/-- the first k numbers -/
def fnL (f : Nat → Int) : Nat → List Int
  | 0 => []
  | k + 1 => fnL f k ++ [f k]
theorem fnL_len (f : Nat → Int) : ∀ k, (fnL f k).length = k := by
  intro k
  induction k with
  | zero => rfl
  | succ k ih => simp [fnL, ih]
theorem fnL_at (f : Nat → Int) : ∀ k i, i < k → (fnL f k)[i]? = some (f i) := by
  intro k
  induction k with
  | zero => intro i hi; omega
  | succ k ih =>
    intro i hi
    by_cases e : i < k
    · rw [fnL, List.getElem?_append_left (by rw [fnL_len]; exact e)]; exact ih i e
    · obtain rfl : i = k := by omega
      rw [fnL, List.getElem?_append_right (by rw [fnL_len]; exact Nat.le_refl _), fnL_len]; simp
theorem fnL_z (f : Nat → Int) (k i : Nat) (hi : i < k) : nsZ (fnL f k) i = f i := by
  rw [nsZ, List.getD_eq_getElem?_getD, fnL_at f k i hi]; rfl
theorem fnL_ok {f : Nat → Int} {k : Nat} (h : ∀ i, i < k → -9223372036854775808 ≤ f i ∧ f i ≤ 9223372036854775807) : NsOk (fnL f k) := fun x hx => by
  obtain ⟨i, hi, rfl⟩ := List.getElem_of_mem hx
  rw [fnL_len] at hi
  have h1 := fnL_at f k i hi
  rw [List.getElem?_eq_getElem (by rw [fnL_len]; exact hi)] at h1
  simp only [Option.some.injEq] at h1
  rw [h1]
  exact h i hi

end Go.Proofs.Ythelaffjpmcdbaa
