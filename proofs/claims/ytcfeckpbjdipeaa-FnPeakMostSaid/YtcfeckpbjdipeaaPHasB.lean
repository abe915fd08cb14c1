/- What a list holds, in the promises' laws (without the water); higher. -/
import Derived.Test.YtcfeckpbjdipeaaPHelp
import Derived.Test.YtcfeckpbjdipeaaWtZ
import Derived.Test.YtcfeckpbjdipeaaPkZ
namespace Go.Proofs.Ytcfeckpbjdipeaa
open Go.RowKit
set_option linter.unusedVariables false

/-- whether a list holds a number -/
def holds {M : Nat} (l : List (Ix M)) (n : Nat) (k : Nat) : Bool := (l.take k).any (fun x => x.1 == n)
def HasPost (b : Bool) (w : World) (e : Ending) (w' : World) : Prop := e = .returned (.bool b) ∧ ∃ n, w' = w.drewN n

set_option maxHeartbeats 1000000 in
theorem hasInt_any (v : Value) (lo hi : Nat) {M : Nat} (l : List (Ix M)) (n : Nat) (w : World) (h : RdI lo hi w v l.length (ixZ l)) (hM : M ≤ 49) (hl : l.length ≤ 49) (hn : n ≤ 49) :
    Calls Try.prog 19 #[v, .int .i64 n] w (HasPost (l.any (fun x => x.1 == n)) w) := by
  obtain ⟨ao, cap, b, off, rfl, a2, a3, a4, a5, a6⟩ := h
  clear a4
  go_enter Try.func19, Try.ntmps19
  go_wp2
  go_loopw [5] (fun i wr => ∃ k m : Nat, k ≤ l.length ∧ i = .int .i64 k ∧ (l.take k).any (fun x => x.1 == n) = false ∧ wr = w.drewN m) (fun i _ => l.length - (intOf i).toNat)
  case atStart => exact ⟨0, 0, Nat.zero_le _, rfl, by simp, rfl⟩
  case round =>
    obtain ⟨k, m, hk, rfl, hA, rfl⟩ := hrel
    by_cases hlt : k < l.length
    · obtain ⟨rfl, _, _⟩ := a5 (by omega)
      have q1 := a6 k hlt
      rw [ixZ_at l hlt] at q1
      have HT := Lib.hid (show (l.take (k + 1)).any (fun x => x.1 == n) = ((l.take k).any (fun x => x.1 == n) || (l[k].1 == n)) by rw [List.take_succ_eq_append_getElem hlt, List.any_append]; simp)
      have HE := Lib.hid (show l[k].1 = n → l.any (fun x => x.1 == n) = true from fun e => List.any_eq_true.2 ⟨l[k], List.getElem_mem hlt, by simp [e]⟩)
      obtain ⟨z, ez⟩ : ∃ z, l[k] = z := ⟨_, rfl⟩
      rw [ez] at q1 HT HE
      rw [hA] at HT
      have hz := z.2
      obtain ⟨y, ey⟩ : ∃ y, z.1 = y := ⟨_, rfl⟩
      rw [ey] at q1 HT HE hz
      clear a5 a6 ez ey hA
      have hlt' : (k : Int) < l.length := by omega
      by_cases hyn : y = n
      · have hx : ((y : Int) == (n : Int)) = true := by simp [hyn]
        have HE2 := Lib.hid (HE.out hyn)
        clear hyn
        go_wp2
        go_ret
        exact ⟨congrArg (fun b => Ending.returned (Value.bool b)) HE2.out.symm, _, rfl⟩
      · have hx : ((y : Int) == (n : Int)) = false := by rw [beq_eq_false_iff_ne]; omega
        go_wp2
        go_roundw
        case rel => exact ⟨k + 1, m, by omega, by go_num, by rw [HT.out]; simp [hyn], rfl⟩
        case measure => simp [intOf]; omega
    · have ek : k = l.length := by omega
      subst ek
      rw [List.take_length] at hA
      have HA := Lib.hid hA
      clear a5 a6 hA
      go_wp2
      go_ret
      exact ⟨congrArg (fun b => Ending.returned (Value.bool b)) HA.out.symm, m, rfl⟩



set_option maxHeartbeats 2000000 in
set_option maxRecDepth 20000 in
theorem higher_any (v : Value) (lo hi : Nat) (g : G) (a b : Nat) (w : World) (hv : RdM lo hi w v g) (h : g.Valid) (ha : a < g.n * g.len 0) (hb : b < g.n * g.len 0) :
    Calls Try.prog 16 #[v, .int .i64 a, .int .i64 b] w (BlPost (hiB g.flat a b) w) := by
  have HA := Lib.hid (fun n => heightOf_any v lo hi g a (w.drewN n) (hv.same (fun _ _ _ => rfl)) h ha)
  have HB := Lib.hid (fun n => heightOf_any v lo hi g b (w.drewN n) (hv.same (fun _ _ _ => rfl)) h hb)
  have HGT := Lib.hid (fun (e : g.flat b < g.flat a) => hiB_gt e)
  have HLT := Lib.hid (fun (e : g.flat a < g.flat b) => hiB_lt e)
  have HEQ := Lib.hid (fun (e : g.flat a = g.flat b) => hiB_eq e)
  obtain ⟨za, eza⟩ : ∃ z, g.flat a = z := ⟨_, rfl⟩
  obtain ⟨zb, ezb⟩ : ∃ z, g.flat b = z := ⟨_, rfl⟩
  obtain ⟨t, et⟩ : ∃ t, hiB g.flat a b = t := ⟨_, rfl⟩
  rw [eza] at HA HGT HLT HEQ
  rw [ezb] at HB HGT HLT HEQ
  rw [et] at HGT HLT HEQ ⊢
  obtain ⟨c1, c2, rfl⟩ : ∃ c1 c2, v = .slice c1 g.n c2 := by
    obtain ⟨ao, cap, _, _, _, _, h, _⟩ := hv
    exact ⟨ao, cap, h⟩
  clear hv h eza ezb et
  go_enter Try.func16, Try.ntmps16
  go_wp2_with fail
  refine (HA.out 0).mono ?_
  rintro e w1 ⟨rfl, n1, hw1⟩
  rw [World.drewN_drewN] at hw1
  subst hw1
  go_wp2_with fail
  refine (HB.out _).mono ?_
  rintro e w2 ⟨rfl, n2, hw2⟩
  rw [World.drewN_drewN] at hw2
  subst hw2
  by_cases h1 : zb < za
  · have ht := HGT.out h1
    subst ht
    go_wp2
    go_ret
    exact bl_post rfl (below_drewN (Below.refl _ _) _)
  · have hd1 : decide (zb < za) = false := by simp; omega
    go_wp2_with fail
    refine (HA.out _).mono ?_
    rintro e w3 ⟨rfl, n3, hw3⟩
    rw [World.drewN_drewN] at hw3
    subst hw3
    go_wp2_with fail
    refine (HB.out _).mono ?_
    rintro e w4 ⟨rfl, n4, hw4⟩
    rw [World.drewN_drewN] at hw4
    subst hw4
    by_cases h2 : za = zb
    · have ht := HEQ.out h2
      have hb2 : (za == zb) = true := by rw [beq_iff_eq]; exact h2
      have hdd : decide ((a : Int) < b) = decide (a < b) := by
        by_cases q : a < b
        · rw [decide_eq_true q, decide_eq_true (by omega)]
        · rw [decide_eq_false q, decide_eq_false (by omega)]
      have HT := Lib.hid ht
      clear h2 ht hdd
      go_wp2
      go_ret
      exact bl_post HT.out (below_drewN (Below.refl _ _) _)
    · have ht := HLT.out (by omega)
      subst ht
      have hb2 : (za == zb) = false := by rw [beq_eq_false_iff_ne]; exact h2
      go_wp2
      go_ret
      exact bl_post rfl (below_drewN (Below.refl _ _) _)

end Go.Proofs.Ytcfeckpbjdipeaa
