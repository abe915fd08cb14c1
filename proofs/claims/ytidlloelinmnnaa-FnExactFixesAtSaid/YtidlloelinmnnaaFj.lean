/- Corrections done one after the other, in the program. -/
import Derived.Test.YtidlloelinmnnaaFi
namespace Go.Proofs.Ytidlloelinmnnaa
open Go.RowKit Go.Shelf
set_option linter.unusedVariables false
set_option linter.unusedSimpArgs false

theorem me_done (d : Nat) (v : Value) (W : World) : (method (d + 1) 96 v "loop.example/reliefmaps/impl.doneOn").run Try.prog W = .ok (157, v) W := by kernel_rfl
theorem me_doneE (d : Nat) (v : Value) (W : World) : (method (d + 1) 93 v "loop.example/reliefmaps/impl.doneOn").run Try.prog W = .ok (154, v) W := by kernel_rfl
theorem cf_done (args : Array Value) (W : World) : (callFunc 157 args).run Try.prog W = .ok (.enter 157 args) W := by kernel_rfl
theorem cf_doneE (args : Array Value) (W : World) : (callFunc 154 args).run Try.prog W = .ok (.enter 154 args) W := by kernel_rfl

def dnF : List Fx → Nat
  | [] => 154
  | _ :: _ => 157
def dnR : List Fx → Value
  | [] => .agg #[]
  | f :: l => .agg #[.int .i64 f.r, .int .i64 f.c, .int .i64 f.o, .int .i64 f.n, ckV l]
theorem dn_rest (L : List Fx) : ∃ vt, ckV L = .iface vt (dnR L) ∧ (∀ d W, (method (d + 1) vt (dnR L) "loop.example/reliefmaps/impl.doneOn").run Try.prog W = .ok (dnF L, dnR L) W) ∧ ∀ args W, (callFunc (dnF L) args).run Try.prog W = .ok (.enter (dnF L) args) W := by
  cases L with
  | nil => exact ⟨_, rfl, fun d W => me_doneE d _ W, cf_doneE⟩
  | cons f l => exact ⟨_, rfl, fun d W => me_done d _ W, cf_done⟩

/-- what doing all of them leaves -/
def DnP (R C gg0 : Nat) (h : Nat → Int) (L : List Fx) (w : World) (e : Ending) (w' : World) : Prop := Below w.heap.size w w' ∧
  ((DoOk R C h L ∧ ∃ n gg cap, e = .returned (.tuple #[.agg #[.int .i64 R, .int .i64 C, .slice (some ⟨gg, 0, none⟩) n cap], .bool true]) ∧ Rv w' R C n gg cap (doH C h L) ∧ (gg = gg0 ∨ w.heap.size ≤ gg)) ∨
   (¬ DoOk R C h L ∧ e = .returned (.tuple #[.agg #[.int .i64 0, .int .i64 0, .slice none 0 0], .bool false])))

set_option maxHeartbeats 2000000 in
set_option maxRecDepth 20000 in
theorem doneE_any (R C cnt gg cap : Nat) (h : Nat → Int) (w : World) (hv : Rv w R C cnt gg cap h) :
    Calls Try.prog 154 #[.agg #[], .agg #[.int .i64 R, .int .i64 C, .slice (some ⟨gg, 0, none⟩) cnt cap]] w (DnP R C gg h [] w) := by
  have hb3 : Below w.heap.size w (((w.alloc (.cells #[] 93)).alloc (.cells #[.int .i64 R, .int .i64 C, .slice (some ⟨gg, 0, none⟩) cnt cap] 68)).alloc (.cells #[.int .i64 R, .int .i64 C, .slice (some ⟨gg, 0, none⟩) cnt cap] 68)) := (((Below.refl _ _).alloc (Nat.le_refl _) _).alloc (by simp) _).alloc (by simp; omega) _
  have HE := Lib.hid (heap_alloc3_new w (.cells #[] 93) (.cells #[.int .i64 R, .int .i64 C, .slice (some ⟨gg, 0, none⟩) cnt cap] 68) (.cells #[.int .i64 R, .int .i64 C, .slice (some ⟨gg, 0, none⟩) cnt cap] 68))
  have HV := Lib.hid (hv.keep hb3 (Nat.le_refl _))
  have HB := Lib.hid hb3
  clear hv hb3
  go_enter Try.func154, Try.ntmps154
  go_wp2
  exact bodyPost_ret (results_cell_row_tmp rfl _ _ (w.heap.size + 1 + 1) _ #[.int .i64 R, .int .i64 C, .slice (some ⟨gg, 0, none⟩) cnt cap] _ _ rfl HE.out Try.underlying68 rfl Try.sizeRel _ rfl) rfl ⟨HB.out, Or.inl ⟨trivial, cnt, gg, cap, rfl, HV.out, Or.inl rfl⟩⟩

theorem alloc3_all (w : World) (a b c : Obj) : ∃ W, W = ((w.alloc a).alloc b).alloc c ∧ W.heap.size = w.heap.size + 3 ∧ W.heap[w.heap.size]? = some a ∧ W.heap[w.heap.size + 1]? = some b ∧ W.heap[w.heap.size + 2]? = some c ∧ Below w.heap.size w W :=
  ⟨_, rfl, by simp, (Below.heap_alloc _ _ _ (by simp; omega)).trans ((Below.heap_alloc _ _ _ (by simp)).trans (heap_alloc_new w _)), (Below.heap_alloc _ _ _ (by simp)).trans (heap_alloc2_new w _ _), heap_alloc3_new w _ _ _, (((Below.refl _ _).alloc (Nat.le_refl _) _).alloc (by simp) _).alloc (by simp; omega) _⟩
theorem heap3_far (w : World) {x y : Nat} (h : y ≠ x) (a b c : Value) : (((w.setCell ⟨x, 0, none⟩ a).setCell ⟨x, 1, none⟩ b).setCell ⟨x, 2, none⟩ c).heap[y]? = w.heap[y]? :=
  (Below.heap_setCell _ _ _ _ (by simpa using h)).trans ((Below.heap_setCell _ _ _ _ (by simpa using h)).trans (Below.heap_setCell _ _ _ _ (by simpa using h)))
theorem rv_set3 {w : World} {R C n gg cap : Nat} {Z : Nat → Int} (h : Rv w R C n gg cap Z) {x : Nat} (hx : gg ≠ x) {a b c : Value} : Rv (((w.setCell ⟨x, 0, none⟩ a).setCell ⟨x, 1, none⟩ b).setCell ⟨x, 2, none⟩ c) R C n gg cap Z :=
  ⟨h.n_eq, by simp [World.setCell]; exact h.lt, h.le, fun i hi => (cell3_far _ _ _ _ _ _ hx).trans (h.cell i hi)⟩
theorem cells5 {w : World} {b : Nat} {x y z u v : Value} {t : TypeId} (h : w.heap[b]? = some (.cells #[x, y, z, u, v] t (0, 0))) :
    w.cell? ⟨b, 0, none⟩ = some x ∧ w.cell? ⟨b, 1, none⟩ = some y ∧ w.cell? ⟨b, 2, none⟩ = some z ∧ w.cell? ⟨b, 3, none⟩ = some u ∧ w.cell? ⟨b, 4, none⟩ = some v :=
  ⟨by simp [World.cell?, h], by simp [World.cell?, h], by simp [World.cell?, h], by simp [World.cell?, h], by simp [World.cell?, h]⟩

set_option maxRecDepth 20000 in
set_option maxHeartbeats 8000000 in
theorem doneC_any (R C cnt gg cap : Nat) (r c o n : Int) (rest : List Fx) (h : Nat → Int) (vt : TypeId) (vu : Value) (fn : Nat) (w : World) (hv : Rv w R C cnt gg cap h) (hR : R ≤ 7) (hC : C ≤ 7) (hz : ∀ i, i < R * C → 0 ≤ h i ∧ h i ≤ 99)
    (hme : ∀ d W, (method (d + 1) vt vu "loop.example/reliefmaps/impl.doneOn").run Try.prog W = .ok (fn, vu) W) (hcf : ∀ args W, (callFunc fn args).run Try.prog W = .ok (.enter fn args) W)
    (ih : ∀ (cnt gg cap : Nat) (h' : Nat → Int) (W : World), Rv W R C cnt gg cap h' → (∀ i, i < R * C → 0 ≤ h' i ∧ h' i ≤ 99) → Calls Try.prog fn #[vu, .agg #[.int .i64 R, .int .i64 C, .slice (some ⟨gg, 0, none⟩) cnt cap]] W (DnP R C gg h' rest W)) :
    Calls Try.prog 157 #[.agg #[.int .i64 r, .int .i64 c, .int .i64 o, .int .i64 n, .iface vt vu], .agg #[.int .i64 R, .int .i64 C, .slice (some ⟨gg, 0, none⟩) cnt cap]] w (DnP R C gg h (⟨r, c, o, n⟩ :: rest) w) := by
  obtain ⟨W3, hW3, hs3, k0, k1, k2, hb3⟩ := alloc3_all w (.cells #[.int .i64 r, .int .i64 c, .int .i64 o, .int .i64 n, .iface vt vu] 96) (.cells #[.int .i64 R, .int .i64 C, .slice (some ⟨gg, 0, none⟩) cnt cap] 68) (.cells #[.int .i64 0, .int .i64 0, .slice none 0 0] 68)
  have HAL := Lib.hid (allows_any R C cnt gg cap r c o n h W3 (hv.keep hb3 (Nat.le_refl _)) hR hC)
  have HV := Lib.hid (fun (W : World) (hb : Below w.heap.size w W) => hv.keep hb (Nat.le_refl _))
  have HZ := Lib.hid hz
  have HIH := Lib.hid ih
  have K0 := Lib.hid k0
  have K1 := Lib.hid k1
  have K2 := Lib.hid k2
  have HB3 := Lib.hid hb3
  clear hv hz ih k0 k1 k2 hb3
  by_cases hcan : Can R C h ⟨r, c, o, n⟩
  case neg =>
    have HNO := Lib.hid (show ¬ DoOk R C h (⟨r, c, o, n⟩ :: rest) from fun k => hcan k.1)
    rw [canB_no hcan] at HAL
    clear hcan HIH hme hcf
    go_enter Try.func157, Try.ntmps157
    go_wp2_with fail
    rw [← hW3]
    refine HAL.out.mono ?_
    rintro e w4 ⟨rfl, hb4⟩
    have J2 := Lib.hid ((hb4.block (w.heap.size + 2) (by omega)).trans K2.out)
    obtain ⟨u0, u1, u2, v0, v1, v2⟩ := cells3 J2.out
    have HB4 := Lib.hid (HB3.out.trans (hb4.mono (by omega)))
    have HE := Lib.hid (three_set w4 (w.heap.size + 2) _ _ _ (.int .i64 0) (.int .i64 0) (.slice none 0 0) J2.out)
    have HB5 := Lib.hid (below3 HB4.out (x := w.heap.size + 2) (by omega) (.int .i64 0) (.int .i64 0) (.slice none 0 0))
    clear hb4 hW3
    go_wp2
    exact bodyPost_ret (results_cell_row_tmp rfl _ _ (w.heap.size + 2) _ #[.int .i64 0, .int .i64 0, .slice none 0 0] _ _ rfl HE.out Try.underlying68 rfl Try.sizeRel _ rfl) rfl ⟨HB5.out, Or.inr ⟨HNO.out, rfl⟩⟩
  rw [canB_yes hcan] at HAL
  have HR2 := Lib.hid (put_range hcan HZ.out)
  have HCAN := Lib.hid hcan
  obtain ⟨⟨⟨p0, p1⟩, p2, p3⟩, _, p4, _⟩ := hcan
  simp only at p0 p1 p2 p3 p4
  have HCO := Lib.hid (fun (W : World) (hb : Below w.heap.size w W) => show Calls Try.prog 161 #[.agg #[.int .i64 R, .int .i64 C, .slice (some ⟨gg, 0, none⟩) cnt cap], .agg #[.int .i64 r, .int .i64 c, .int .i64 o, .int .i64 n]] W (MqPost R C (put C h ⟨r, c, o, n⟩) W) from by
    obtain ⟨r, rfl⟩ := Int.eq_ofNat_of_zero_le p0
    obtain ⟨c, rfl⟩ := Int.eq_ofNat_of_zero_le p2
    exact corrected_any R C cnt gg cap r c o n h W (HV.out W hb) hR hC (by omega) (by omega) (fun i hi => HZ.out i (by rw [← (HV.out W hb).n_eq]; exact hi)) p4)
  clear p0 p1 p2 p3 p4 HZ
  go_enter Try.func157, Try.ntmps157
  go_wp2_with fail
  rw [← hW3]
  refine HAL.out.mono ?_
  rintro e w4 ⟨rfl, hb4⟩
  have hz4 := hb4.size
  have J0 := Lib.hid ((hb4.block w.heap.size (by omega)).trans K0.out)
  have J1 := Lib.hid ((hb4.block (w.heap.size + 1) (by omega)).trans K1.out)
  have J2 := Lib.hid ((hb4.block (w.heap.size + 2) (by omega)).trans K2.out)
  have HB4 := Lib.hid (HB3.out.trans (hb4.mono (by omega)))
  have HS := Lib.hid (fun (W : World) (hb0 : W.heap[w.heap.size]? = w4.heap[w.heap.size]?) (hb1 : W.heap[w.heap.size + 1]? = w4.heap[w.heap.size + 1]?) => show W.cell? ⟨w.heap.size, 0, none⟩ = some (.int .i64 r) ∧ W.cell? ⟨w.heap.size, 1, none⟩ = some (.int .i64 c) ∧ W.cell? ⟨w.heap.size, 2, none⟩ = some (.int .i64 o) ∧ W.cell? ⟨w.heap.size, 3, none⟩ = some (.int .i64 n) ∧ W.cell? ⟨w.heap.size, 4, none⟩ = some (.iface vt vu) ∧ W.cell? ⟨w.heap.size + 1, 0, none⟩ = some (.int .i64 R) ∧ W.cell? ⟨w.heap.size + 1, 1, none⟩ = some (.int .i64 C) ∧ W.cell? ⟨w.heap.size + 1, 2, none⟩ = some (.slice (some ⟨gg, 0, none⟩) cnt cap) from by
    obtain ⟨x0, x1, x2, x3, x4⟩ := cells5 (hb0.trans J0.out)
    obtain ⟨y0, y1, y2, _⟩ := cells3 (hb1.trans J1.out)
    exact ⟨x0, x1, x2, x3, x4, y0, y1, y2⟩)
  clear hb4 hW3 HAL
  go_wp2_with fail
  refine wp_region_held_drew (S := (fun w' => w'.cell? ⟨w.heap.size, 0, none⟩ = some (.int .i64 r) ∧ w'.cell? ⟨w.heap.size, 1, none⟩ = some (.int .i64 c) ∧ w'.cell? ⟨w.heap.size, 2, none⟩ = some (.int .i64 o) ∧ w'.cell? ⟨w.heap.size, 3, none⟩ = some (.int .i64 n) ∧ w'.cell? ⟨w.heap.size, 4, none⟩ = some (.iface vt vu) ∧ w'.cell? ⟨w.heap.size + 1, 0, none⟩ = some (.int .i64 R) ∧ w'.cell? ⟨w.heap.size + 1, 1, none⟩ = some (.int .i64 C) ∧ w'.cell? ⟨w.heap.size + 1, 2, none⟩ = some (.slice (some ⟨gg, 0, none⟩) cnt cap))) (by kernel_rfl) ?_ (fun hHeld => ?_)
  · exact HS.out _ rfl rfl
  refine wpAnyH_take (i := 0) (v := ?_) (by simp only [List.getElem?_toArray, List.getElem?_cons_succ, List.getElem?_cons_zero]; exact rfl) (by kernel_rfl) (by kernel_rfl) (by kernel_rfl) (by exact fun _ _ _ h => h) (Or.inl ⟨by rfl, ?_⟩) (by assumption) ?_
  rotate_left
  · intro w hSw; (try dsimp only at hSw); go_simp; try with_reducible rfl
  try simp only [Act.put, List.setIfInBounds_toArray, List.set_cons_zero, List.set_cons_succ]
  refine wpAnyH_take (i := 1) (v := ?_) (by simp only [List.getElem?_toArray, List.getElem?_cons_succ, List.getElem?_cons_zero]; exact rfl) (by kernel_rfl) (by kernel_rfl) (by kernel_rfl) (by exact fun _ _ _ h => h) (Or.inl ⟨by rfl, ?_⟩) (by assumption) ?_
  rotate_left
  · intro w hSw; (try dsimp only at hSw); go_simp; try with_reducible rfl
  try simp only [Act.put, List.setIfInBounds_toArray, List.set_cons_zero, List.set_cons_succ]
  refine wpAnyH_take (i := 2) (v := ?_) (by simp only [List.getElem?_toArray, List.getElem?_cons_succ, List.getElem?_cons_zero]; exact rfl) (by kernel_rfl) (by kernel_rfl) (by kernel_rfl) (by exact fun _ _ _ h => h) (Or.inl ⟨by rfl, ?_⟩) (by assumption) ?_
  rotate_left
  · intro w hSw; (try dsimp only at hSw); go_simp; try with_reducible rfl
  try simp only [Act.put, List.setIfInBounds_toArray, List.set_cons_zero, List.set_cons_succ]
  refine wpAnyH_take (i := 3) (v := ?_) (by simp only [List.getElem?_toArray, List.getElem?_cons_succ, List.getElem?_cons_zero]; exact rfl) (by kernel_rfl) (by kernel_rfl) (by kernel_rfl) (by exact fun _ _ _ h => h) (Or.inl ⟨by rfl, ?_⟩) (by assumption) ?_
  rotate_left
  · intro w hSw; (try dsimp only at hSw); go_simp; try with_reducible rfl
  try simp only [Act.put, List.setIfInBounds_toArray, List.set_cons_zero, List.set_cons_succ]
  refine wpAnyH_take (i := 4) (v := ?_) (by simp only [List.getElem?_toArray, List.getElem?_cons_succ, List.getElem?_cons_zero]; exact rfl) (by kernel_rfl) (by kernel_rfl) (by kernel_rfl) (by exact fun _ _ _ h => h) (Or.inl ⟨by rfl, ?_⟩) (by assumption) ?_
  rotate_left
  · intro w hSw; (try dsimp only at hSw); go_simp; try with_reducible rfl
  try simp only [Act.put, List.setIfInBounds_toArray, List.set_cons_zero, List.set_cons_succ]
  refine wpAnyH_take (i := 6) (v := ?_) (by simp only [List.getElem?_toArray, List.getElem?_cons_succ, List.getElem?_cons_zero]; exact rfl) (by kernel_rfl) (by kernel_rfl) (by kernel_rfl) (by exact fun _ _ _ h => h) (Or.inl ⟨by rfl, ?_⟩) (by assumption) ?_
  rotate_left
  · intro w hSw; (try dsimp only at hSw); go_simp; try with_reducible rfl
  try simp only [Act.put, List.setIfInBounds_toArray, List.set_cons_zero, List.set_cons_succ]
  refine wpAnyH_take (i := 7) (v := ?_) (by simp only [List.getElem?_toArray, List.getElem?_cons_succ, List.getElem?_cons_zero]; exact rfl) (by kernel_rfl) (by kernel_rfl) (by kernel_rfl) (by exact fun _ _ _ h => h) (Or.inl ⟨by rfl, ?_⟩) (by assumption) ?_
  rotate_left
  · intro w hSw; (try dsimp only at hSw); go_simp; try with_reducible rfl
  try simp only [Act.put, List.setIfInBounds_toArray, List.set_cons_zero, List.set_cons_succ]
  refine wpAnyH_ready (rs := [5]) (by kernel_rfl) (by simp) ?_
  refine AllReadyH.cons (by simp only [List.getElem?_toArray, List.getElem?_cons_succ, List.getElem?_cons_zero]; exact rfl) (fun K hK => ?_) AllReadyH.nil
  go_simp
  go_at_call 161
  refine (HCO.out _ (below_un HB4.out)).mono ?_
  rintro e w5 ⟨n5, g5, c5, rfl, hv5, hb5, hg5⟩
  have HG5 := Lib.hid (show w4.heap.size ≤ g5 from hg5)
  have X5 := Lib.hid (show Below w4.heap.size w4 w5 from hb5.undrew)
  have V5 := Lib.hid hv5
  clear hb5 hv5 hg5
  go_wp2_with fail
  refine hK.out _ _ ?_ (fun hHeld2 => ?_)
  · exact HS.out _ (X5.out.block _ (by omega)) (X5.out.block _ (by omega))
  clear hK K
  try simp only [Act.put, List.setIfInBounds_toArray, List.set_cons_zero, List.set_cons_succ]
  refine wpAnyH_ready (rs := [8]) (by kernel_rfl) (by simp) ?_
  refine AllReadyH.cons (by simp only [List.getElem?_toArray, List.getElem?_cons_succ, List.getElem?_cons_zero]; exact rfl) (fun K hK => ?_) AllReadyH.nil
  go_simp
  refine (HIH.out n5 g5 c5 _ w5 V5.out HR2.out).mono ?_
  rintro e w6 ⟨hb6, hcase⟩
  have X6 := Lib.hid (show Below w4.heap.size w4 w6 from X5.out.trans (hb6.mono X5.out.size))
  have M2 := Lib.hid ((X6.out.block (w.heap.size + 2) (by omega)).trans J2.out)
  obtain ⟨u0, u1, u2, v0, v1, v2⟩ := cells3 M2.out
  clear hb6
  rcases hcase with ⟨hok, n6, g6, c6, rfl, hv6, hg6⟩ | ⟨hno, rfl⟩
  · have HOK := Lib.hid hok
    have V6 := Lib.hid hv6
    have HG6 := Lib.hid (show w4.heap.size ≤ g6 by have := HG5.out; have := X5.out.size; omega)
    clear hok hv6 hg6
    go_wp2_with fail
    refine hK.out _ _ ?_ (fun hHeld3 => ?_)
    · exact HS.out _ (X6.out.block _ (by omega)) (X6.out.block _ (by omega))
    clear hK K
    try simp only [Act.put, List.setIfInBounds_toArray, List.set_cons_zero, List.set_cons_succ]
    refine wpAnyH_take (i := 9) (v := ?_) (by simp only [List.getElem?_toArray, List.getElem?_cons_succ, List.getElem?_cons_zero]; exact rfl) (by kernel_rfl) (by kernel_rfl) (by kernel_rfl) (by exact fun _ _ _ h => h) (Or.inl ⟨by rfl, ?_⟩) (by assumption) ?_
    rotate_left
    · intro w hSw; (try dsimp only at hSw); go_simp; try with_reducible rfl
    try simp only [Act.put, List.setIfInBounds_toArray, List.set_cons_zero, List.set_cons_succ]
    refine wpAnyH_take (i := 10) (v := ?_) (by simp only [List.getElem?_toArray, List.getElem?_cons_succ, List.getElem?_cons_zero]; exact rfl) (by kernel_rfl) (by kernel_rfl) (by kernel_rfl) (by exact fun _ _ _ h => h) (Or.inl ⟨by rfl, ?_⟩) (by assumption) ?_
    rotate_left
    · intro w hSw; (try dsimp only at hSw); go_simp; try with_reducible rfl
    try simp only [Act.put, List.setIfInBounds_toArray, List.set_cons_zero, List.set_cons_succ]
    refine wpAnyH_ready (rs := [11]) (by kernel_rfl) (by simp) ?_
    refine AllReadyH.cons (by simp only [List.getElem?_toArray, List.getElem?_cons_succ, List.getElem?_cons_zero]; exact rfl) (fun K hK => ?_) AllReadyH.nil
    go_simp
    refine hK.out _ _ ?_ (fun hHeld4 => ?_)
    · exact HS.out _ ((heap3_far w6 (by omega) _ _ _).trans (X6.out.block _ (by omega))) ((heap3_far w6 (by omega) _ _ _).trans (X6.out.block _ (by omega)))
    clear hK K
    try simp only [Act.put, List.setIfInBounds_toArray, List.set_cons_zero, List.set_cons_succ]
    refine wpAnyH_take (i := 12) (v := ?_) (by simp only [List.getElem?_toArray, List.getElem?_cons_succ, List.getElem?_cons_zero]; exact rfl) (by kernel_rfl) (by kernel_rfl) (by kernel_rfl) (by exact fun _ _ _ h => h) (Or.inl ⟨by rfl, ?_⟩) (by assumption) ?_
    rotate_left
    · intro w hSw; (try dsimp only at hSw); go_simp; try with_reducible rfl
    try simp only [Act.put, List.setIfInBounds_toArray, List.set_cons_zero, List.set_cons_succ]
    refine wpAnyH_done (by kernel_rfl) ?_ _
    have HE := Lib.hid (three_set w6 (w.heap.size + 2) _ _ _ (.int .i64 R) (.int .i64 C) (.slice (some ⟨g6, 0, none⟩) n6 c6) M2.out)
    have HB8 := Lib.hid (below3 (HB4.out.trans (X6.out.mono HB4.out.size)) (x := w.heap.size + 2) (by omega) (.int .i64 R) (.int .i64 C) (.slice (some ⟨g6, 0, none⟩) n6 c6))
    clear hHeld4 hHeld3 u0 u1 u2 v0 v1 v2
    go_wp2
    exact bodyPost_ret (results_cell_row_tmp rfl _ _ (w.heap.size + 2) _ #[.int .i64 R, .int .i64 C, .slice (some ⟨g6, 0, none⟩) n6 c6] _ _ rfl HE.out Try.underlying68 rfl Try.sizeRel _ rfl) rfl ⟨HB8.out, Or.inl ⟨⟨HCAN.out, HOK.out⟩, n6, g6, c6, rfl, rv_set3 V6.out (by have := HG6.out; omega), Or.inr (by have := HG6.out; omega)⟩⟩
  · have HNO := Lib.hid hno
    clear hno
    go_wp2_with fail
    refine hK.out _ _ ?_ (fun hHeld3 => ?_)
    · exact HS.out _ (X6.out.block _ (by omega)) (X6.out.block _ (by omega))
    clear hK K
    try simp only [Act.put, List.setIfInBounds_toArray, List.set_cons_zero, List.set_cons_succ]
    refine wpAnyH_take (i := 9) (v := ?_) (by simp only [List.getElem?_toArray, List.getElem?_cons_succ, List.getElem?_cons_zero]; exact rfl) (by kernel_rfl) (by kernel_rfl) (by kernel_rfl) (by exact fun _ _ _ h => h) (Or.inl ⟨by rfl, ?_⟩) (by assumption) ?_
    rotate_left
    · intro w hSw; (try dsimp only at hSw); go_simp; try with_reducible rfl
    try simp only [Act.put, List.setIfInBounds_toArray, List.set_cons_zero, List.set_cons_succ]
    refine wpAnyH_take (i := 10) (v := ?_) (by simp only [List.getElem?_toArray, List.getElem?_cons_succ, List.getElem?_cons_zero]; exact rfl) (by kernel_rfl) (by kernel_rfl) (by kernel_rfl) (by exact fun _ _ _ h => h) (Or.inl ⟨by rfl, ?_⟩) (by assumption) ?_
    rotate_left
    · intro w hSw; (try dsimp only at hSw); go_simp; try with_reducible rfl
    try simp only [Act.put, List.setIfInBounds_toArray, List.set_cons_zero, List.set_cons_succ]
    refine wpAnyH_ready (rs := [11]) (by kernel_rfl) (by simp) ?_
    refine AllReadyH.cons (by simp only [List.getElem?_toArray, List.getElem?_cons_succ, List.getElem?_cons_zero]; exact rfl) (fun K hK => ?_) AllReadyH.nil
    go_simp
    refine hK.out _ _ ?_ (fun hHeld4 => ?_)
    · exact HS.out _ ((heap3_far w6 (by omega) _ _ _).trans (X6.out.block _ (by omega))) ((heap3_far w6 (by omega) _ _ _).trans (X6.out.block _ (by omega)))
    clear hK K
    try simp only [Act.put, List.setIfInBounds_toArray, List.set_cons_zero, List.set_cons_succ]
    refine wpAnyH_take (i := 12) (v := ?_) (by simp only [List.getElem?_toArray, List.getElem?_cons_succ, List.getElem?_cons_zero]; exact rfl) (by kernel_rfl) (by kernel_rfl) (by kernel_rfl) (by exact fun _ _ _ h => h) (Or.inl ⟨by rfl, ?_⟩) (by assumption) ?_
    rotate_left
    · intro w hSw; (try dsimp only at hSw); go_simp; try with_reducible rfl
    try simp only [Act.put, List.setIfInBounds_toArray, List.set_cons_zero, List.set_cons_succ]
    refine wpAnyH_done (by kernel_rfl) ?_ _
    have HE := Lib.hid (three_set w6 (w.heap.size + 2) _ _ _ (.int .i64 0) (.int .i64 0) (.slice none 0 0) M2.out)
    have HB8 := Lib.hid (below3 (HB4.out.trans (X6.out.mono HB4.out.size)) (x := w.heap.size + 2) (by omega) (.int .i64 0) (.int .i64 0) (.slice none 0 0))
    clear hHeld4 hHeld3 u0 u1 u2 v0 v1 v2
    go_wp2
    exact bodyPost_ret (results_cell_row_tmp rfl _ _ (w.heap.size + 2) _ #[.int .i64 0, .int .i64 0, .slice none 0 0] _ _ rfl HE.out Try.underlying68 rfl Try.sizeRel _ rfl) rfl ⟨HB8.out, Or.inr ⟨fun k => HNO.out k.2, rfl⟩⟩

theorem doneOn_any (R C : Nat) (hR : R ≤ 7) (hC : C ≤ 7) : ∀ (L : List Fx) (cnt gg cap : Nat) (h : Nat → Int) (w : World), Rv w R C cnt gg cap h → (∀ i, i < R * C → 0 ≤ h i ∧ h i ≤ 99) →
    Calls Try.prog (dnF L) #[dnR L, .agg #[.int .i64 R, .int .i64 C, .slice (some ⟨gg, 0, none⟩) cnt cap]] w (DnP R C gg h L w)
  | [], cnt, gg, cap, h, w, hv, _ => doneE_any R C cnt gg cap h w hv
  | f :: l, cnt, gg, cap, h, w, hv, hz => by
    obtain ⟨vt, e, hme, hcf⟩ := dn_rest l
    have := doneC_any R C cnt gg cap f.r f.c f.o f.n l h vt (dnR l) (dnF l) w hv hR hC hz hme hcf (fun cnt gg cap h' W => doneOn_any R C hR hC l cnt gg cap h' W)
    rw [← e] at this
    exact this

end Go.Proofs.Ytidlloelinmnnaa
