/- How the program reads lists as a relief. -/
import Derived.Test.YtdjlobppnhokoaaImplB
namespace Go.Proofs.Ytdjlobppnhokoaa
open Go.RowKit
set_option linter.unusedVariables false

set_option maxHeartbeats 1000000 in
set_option maxRecDepth 20000 in
theorem closOf_any (v : Value) (lo hi B r c : Nat) (g : G) (W : World) (hB : W.cell? ⟨B, 0, none⟩ = some v) (hv : RdM lo hi W v g) (hr : r < g.n) (hc : c < g.len r) :
    Calls Try.prog 82 #[.int .i64 r, .int .i64 c, .pointer (some ⟨B, 0, none⟩)] W fun e w' => e = .returned (.int .i64 (g.z r c)) ∧ Below W.heap.size W w' := by
  obtain ⟨ao, cap, b, off, Ao, Cp, rfl, a2, a3, a5, a6, a7⟩ := hv
  obtain ⟨rfl, hb1, hb2⟩ := a5 (by omega)
  have q1 := a6 r hr
  obtain ⟨ao1, cap1, b1, off1, e1, i2, i3, i4, i5, i6⟩ := a7 r hr
  have i5' := (i5 (by omega)).1
  have ea : Ao r = ao1 := by simp only [Value.slice.injEq] at e1; exact e1.1
  rw [ea, i5'] at q1
  have q2 := i6 c hc
  have hr' : (r : Int) < g.n := by omega
  have hc' : (c : Int) < g.len r := by omega
  clear a5 a6 a7 i4 i5 i6 e1 ea i5' hr hc
  go_enter Try.func82, Try.ntmps82
  go_wp2
  go_ret
  exact ⟨rfl, Below.refl _ _⟩

/-- the flat numbers of a grid with rows of L -/
def G.flat (g : G) (i : Nat) : Int := g.z (i / g.len 0) (i % g.len 0)

theorem G.flat_at (g : G) (r c : Nat) (hc : c < g.len 0) : g.flat (r * g.len 0 + c) = g.z r c := by
  have h0 : 0 < g.len 0 := by omega
  have e1 : (r * g.len 0 + c) / g.len 0 = r := by
    rw [Nat.add_comm, Nat.add_mul_div_right _ _ h0, Nat.div_eq_of_lt hc]; omega
  have e2 : (r * g.len 0 + c) % g.len 0 = c := by
    rw [Nat.add_comm, Nat.add_mul_mod_self_right, Nat.mod_eq_of_lt hc]
  simp only [G.flat, e1, e2]

/-- what reliefOf answers for a grid -/
def RelYes (g : G) (w : World) (e : Ending) (w' : World) : Prop :=
  ∃ n gg cap xs, n = g.n * g.len 0 ∧ e = .returned (.tuple #[.agg #[.int .i64 g.n, .int .i64 (g.len 0), .slice (some ⟨gg, 0, none⟩) n cap], .bool true]) ∧ w'.ownsRow w.heap.size 3 1 (.slice (some ⟨gg, 0, none⟩) n cap) n xs ∧
    (∀ i, i < n → xs[i]? = some (.int .i64 (g.flat i))) ∧ Below w.heap.size w w'
def RelNo (w : World) (e : Ending) (w' : World) : Prop :=
  e = .returned (.tuple #[.agg #[.int .i64 0, .int .i64 0, .slice none 0 0], .bool false]) ∧ Below w.heap.size w w'

theorem results_cell_row_tmp {fn : Func} {P : Program} {p u : Tmp} {ty : TypeId} (h : fn.results = #[.cell p ty, .tmp u]) (tmps : Array Value) (w : World) (g : Nat) (t : TypeId) (cs : Array Value) (fr : Nat × Nat) (d : TypeDesc)
    (hp : tmps.getD p undef = .pointer (some ⟨g, 0, none⟩)) (hg : w.heap[g]? = some (.cells cs t fr))
    (hu : P.underlying ty = some d) (hd : (match d with | .struct _ | .array _ _ => true | _ => false) = true) (hi : (P.info? ty).map (·.size) = some cs.size) (v : Value) (hv : tmps.getD u undef = v) :
    (results fn tmps).run P w = .ok (.tuple #[.agg cs, v]) w := by
  rw [results_cell_tmp h, hp, hv]
  simp [asAddr, run_loadVar_row w g t ty cs fr d hg hu hd hi, Result.andThen]

theorem G.not_valid_shape {g : G} (h : ¬ g.Shape) : ¬ g.Valid := fun hv => h ⟨hv.1, hv.2.1, fun r hr => (hv.2.2 r hr).1⟩

set_option maxHeartbeats 4000000 in
set_option maxRecDepth 20000 in
theorem reliefOf_bad (v : Value) (lo hi : Nat) (g : G) (w : World) (hv : RdM lo hi w v g) (hh : hi ≤ w.heap.size) (hs : ¬ g.Shape) :
    Calls Try.prog 68 #[v] w (RelNo w) := by
  obtain ⟨W0, hW0⟩ : ∃ W0, W0 = (w.alloc (.cells #[v] 22)).alloc (.cells #[.int .i64 0, .int .i64 0, .slice none 0 0] 39) := ⟨_, rfl⟩
  have hB0 : Below w.heap.size w W0 := by rw [hW0]; exact ((Below.refl _ _).alloc (Nat.le_refl _) _).alloc (by simp) _
  have hv0 : RdM lo hi W0 v g := hv.same (SameIn.below hB0 hh)
  rw [hW0] at hv0
  have hcon := shapeFits_any v lo hi g _ hv0
  rw [G.shB_no hs] at hcon
  have HC := Lib.hid hcon
  have hrange := hv.range
  obtain ⟨ao, cap, b, off, Ao, Cp, rfl, a2, a3, a5, a6, a7⟩ := hv
  clear hcon hv0 hB0 hW0 a5 a6 a7 hrange
  go_enter Try.func68, Try.ntmps68
  go_wp2_with fail
  refine HC.out.mono ?_
  rintro e w' ⟨rfl, rfl⟩
  go_wp2
  exact bodyPost_ret (results_cell_row_tmp rfl _ _ (w.heap.size + 1) _ #[.int .i64 0, .int .i64 0, .slice none 0 0] _ _ rfl (heap_alloc2_new w _ _) Try.underlying39 rfl Try.sizeRel (.bool false) rfl) rfl ⟨rfl, ((Below.refl _ _).alloc (Nat.le_refl _) _).alloc (by simp) _⟩

theorem heap_size_alloc2 (w : World) (a b : Obj) : ((w.alloc a).alloc b).heap.size = w.heap.size + 2 := by simp

theorem heap_size_alloc3 (w : World) (a b c : Obj) : (((w.alloc a).alloc b).alloc c).heap.size = w.heap.size + 3 := by simp
theorem heap_alloc3_new (w : World) (a b c : Obj) : (((w.alloc a).alloc b).alloc c).heap[w.heap.size + 1 + 1]? = some c := by
  have := heap_alloc_new ((w.alloc a).alloc b) c
  simpa using this
theorem cells3 {w : World} {b : Nat} {x y z : Value} {t : TypeId} (h : w.heap[b]? = some (.cells #[x, y, z] t (0, 0))) :
    w.cell? ⟨b, 0, none⟩ = some x ∧ w.cell? ⟨b, 1, none⟩ = some y ∧ w.cell? ⟨b, 2, none⟩ = some z ∧ w.frozen? ⟨b, 0, none⟩ = false ∧ w.frozen? ⟨b, 1, none⟩ = false ∧ w.frozen? ⟨b, 2, none⟩ = false := by
  simp [World.cell?, World.frozen?, h]

theorem newRelief_of (v : Value) (lo hi B : Nat) (g : G) (W : World) (hB : W.cell? ⟨B, 0, none⟩ = some v) (hv : RdM lo hi W v g) (hh : hi ≤ W.heap.size) (hs : g.Shape) :
    Calls Try.prog 81 #[.int .i64 g.n, .int .i64 (g.len 0), .func (.func 82) #[] #[.pointer (some ⟨B, 0, none⟩)]] W (FlatPost W g.n (g.len 0) g.flat) := by
  obtain ⟨h1, h2, h3⟩ := hs
  have hlt : B < W.heap.size := World.block_lt_of_cell? _ _ hB
  refine newRelief_any g.n (g.len 0) _ _ g.flat W (by omega) (by omega) callFunc_try (fun r c W' hr hc hbel => ?_)
  rw [g.flat_at r c hc]
  exact closOf_any v lo hi B r c g W' ((hbel.cell (p := ⟨B, 0, none⟩) hlt).trans hB) (hv.same (SameIn.below hbel hh)) hr (by rw [h3 r hr]; exact hc)

/-- what stands behind the making of the relief in reliefOf -/
def RelMid (g : G) (w : World) (s4 : Value) (wx : World) : Prop :=
  ∃ H n gg cap xs, n = g.n * g.len 0 ∧ s4 = .pointer (some ⟨H, 0, none⟩) ∧ w.heap.size + 1 < H ∧ wx.heap[H]? = some (.cells #[.int .i64 g.n, .int .i64 (g.len 0), .slice (some ⟨gg, 0, none⟩) n cap] 39 (0, 0)) ∧
    wx.ownsRow (w.heap.size + 2) 3 1 (.slice (some ⟨gg, 0, none⟩) n cap) n xs ∧ (∀ i, i < n → xs[i]? = some (.int .i64 (g.flat i))) ∧ Below w.heap.size w wx ∧
    wx.heap[w.heap.size + 1]? = some (.cells #[.int .i64 0, .int .i64 0, .slice none 0 0] 39 (0, 0))

theorem cell3_far {w : World} {x y o : Nat} (a b c : Value) (i j k : Nat) (h : y ≠ x) : (((w.setCell ⟨x, i, none⟩ a).setCell ⟨x, j, none⟩ b).setCell ⟨x, k, none⟩ c).cell? ⟨y, o, none⟩ = w.cell? ⟨y, o, none⟩ := by
  rw [World.cell?_of_block (a := ⟨y, o, none⟩) (Below.heap_setCell _ ⟨x, k, none⟩ c y h), World.cell?_of_block (a := ⟨y, o, none⟩) (Below.heap_setCell _ ⟨x, j, none⟩ b y h), World.cell?_of_block (a := ⟨y, o, none⟩) (Below.heap_setCell _ ⟨x, i, none⟩ a y h)]

theorem below_cast {B : Nat} {w w2 : World} (h : Below w.drew.heap.size w.drew w2) (e : w.heap.size = B) : Below B w w2 := by
  subst e; exact ⟨h.os, h.tape, h.output, h.size, h.block⟩

theorem relMid_a {g : G} {w w2 : World} {o1 : Obj} {n gg cap : Nat} {xs : List Value} (hn : n = g.n * g.len 0) (hown : w2.ownsRow (w.heap.size + 2) 3 1 (.slice (some ⟨gg, 0, none⟩) n cap) n xs) (hval : ∀ i, i < n → xs[i]? = some (.int .i64 (g.flat i)))
    (hb : Below (w.heap.size + 2) ((w.alloc o1).alloc (.cells #[.int .i64 0, .int .i64 0, .slice none 0 0] 39)) w2) :
    RelMid g w (.pointer (some ⟨w2.heap.size, 0, none⟩)) (w2.alloc (.cells #[.int .i64 g.n, .int .i64 (g.len 0), .slice (some ⟨gg, 0, none⟩) n cap] 39)) := by
  have hs := hb.size
  simp at hs
  have hb0 : Below w.heap.size w w2 := (((Below.refl _ _).alloc (Nat.le_refl _) o1).alloc (by simp) _).trans (hb.mono (by omega))
  refine ⟨w2.heap.size, n, gg, cap, xs, hn, rfl, by omega, heap_alloc_new _ _, hown.alloc _, hval, hb0.alloc (by omega) _, ?_⟩
  rw [Below.heap_alloc _ _ _ (by omega), hb.block _ (by omega)]
  exact heap_alloc2_new _ _ _

theorem relMid_b {g : G} {w w2 : World} {o1 : Obj} {n gg cap : Nat} {xs : List Value} (hn : n = g.n * g.len 0) (hown : w2.ownsRow (w.heap.size + 3) 3 1 (.slice (some ⟨gg, 0, none⟩) n cap) n xs) (hval : ∀ i, i < n → xs[i]? = some (.int .i64 (g.flat i)))
    (hb : Below (w.heap.size + 3) (((w.alloc o1).alloc (.cells #[.int .i64 0, .int .i64 0, .slice none 0 0] 39)).alloc (.cells #[.int .i64 0, .int .i64 0, .slice none 0 0] 39)) w2) :
    RelMid g w (.pointer (some ⟨w.heap.size + 1 + 1, 0, none⟩)) (((w2.setCell ⟨w.heap.size + 1 + 1, 0, none⟩ (.int .i64 g.n)).setCell ⟨w.heap.size + 1 + 1, 1, none⟩ (.int .i64 (g.len 0))).setCell ⟨w.heap.size + 1 + 1, 2, none⟩ (.slice (some ⟨gg, 0, none⟩) n cap)) := by
  have hs := hb.size
  simp at hs
  have hb0 : Below w.heap.size w w2 := ((((Below.refl _ _).alloc (Nat.le_refl _) o1).alloc (by simp) _).alloc (by simp; omega) _).trans (hb.mono (by omega))
  have hH : w2.heap[w.heap.size + 1 + 1]? = some (.cells #[.int .i64 0, .int .i64 0, .slice none 0 0] 39 (0, 0)) := (hb.block _ (by omega)).trans (heap_alloc3_new w _ _ _)
  have hlo := (hown.lt gg rfl).1
  have hne : Value.ownBlock (.slice (some ⟨gg, 0, none⟩) n cap) ≠ some (w.heap.size + 1 + 1) := by simp [Value.ownBlock]; omega
  refine ⟨w.heap.size + 1 + 1, n, gg, cap, xs, hn, rfl, by omega, three_set _ _ _ _ _ _ _ _ hH, ?_, hval, ?_, ?_⟩
  · exact ownsRow_setCell_other (ownsRow_setCell_other (ownsRow_setCell_other (ownsRow_base hown (by omega)) (a := ⟨w.heap.size + 1 + 1, 0, none⟩) hne _) (a := ⟨w.heap.size + 1 + 1, 1, none⟩) hne _) (a := ⟨w.heap.size + 1 + 1, 2, none⟩) hne _
  · exact ((hb0.setCell (by show w.heap.size ≤ w.heap.size + 1 + 1; omega) _).setCell (by show w.heap.size ≤ w.heap.size + 1 + 1; omega) _).setCell (by show w.heap.size ≤ w.heap.size + 1 + 1; omega) _
  · rw [Below.heap_setCell _ _ _ _ (by show w.heap.size + 1 ≠ w.heap.size + 1 + 1; omega), Below.heap_setCell _ _ _ _ (by show w.heap.size + 1 ≠ w.heap.size + 1 + 1; omega), Below.heap_setCell _ _ _ _ (by show w.heap.size + 1 ≠ w.heap.size + 1 + 1; omega), hb.block _ (by omega), Below.heap_alloc _ _ _ (by simp)]
    exact heap_alloc2_new _ _ _

theorem rel_ok {g : G} (h : g.Valid) {n : Nat} (hn : n = g.n * g.len 0) : RelOk g.n (g.len 0) n g.flat := by
  obtain ⟨h1, h2, h3⟩ := h
  refine ⟨h1, h2, fun i hi => ?_⟩
  have h0 : 0 < g.len 0 := by omega
  have e1 : i / g.len 0 < g.n := by rw [Nat.div_lt_iff_lt_mul h0]; omega
  have := (h3 _ e1).2 (i % g.len 0) (by rw [(h3 _ e1).1]; exact Nat.mod_lt _ h0)
  exact this

theorem rel_no {g : G} (hs : g.Shape) (h : ¬ g.Valid) {n : Nat} (hn : n = g.n * g.len 0) : ¬ RelOk g.n (g.len 0) n g.flat := by
  intro hr
  apply h
  obtain ⟨h1, h2, h3⟩ := hs
  refine ⟨h1, h2, fun r hr' => ⟨h3 r hr', fun c hc => ?_⟩⟩
  rw [h3 r hr'] at hc
  have := hr.2.2 (r * g.len 0 + c) (by
    have e : (r + 1) * g.len 0 ≤ g.n * g.len 0 := Nat.mul_le_mul_right _ hr'
    rw [Nat.add_mul] at e
    omega)
  rwa [g.flat_at r c hc] at this

theorem own3 {w : World} {base : Nat} {e : TypeId} {size gg n cap m : Nat} {xs : List Value} (h : w.ownsRow base e size (.slice (some ⟨gg, 0, none⟩) n cap) m xs) {x : Nat} (hx : gg ≠ x) (a b c : Value) :
    (((w.setCell ⟨x, 0, none⟩ a).setCell ⟨x, 1, none⟩ b).setCell ⟨x, 2, none⟩ c).ownsRow base e size (.slice (some ⟨gg, 0, none⟩) n cap) m xs := by
  have hne : Value.ownBlock (.slice (some ⟨gg, 0, none⟩) n cap) ≠ some x := by simp [Value.ownBlock]; omega
  exact ownsRow_setCell_other (ownsRow_setCell_other (ownsRow_setCell_other h (a := ⟨x, 0, none⟩) hne a) (a := ⟨x, 1, none⟩) hne b) (a := ⟨x, 2, none⟩) hne c

theorem below3 {B : Nat} {a w : World} (h : Below B a w) {x : Nat} (hx : B ≤ x) (p q r : Value) : Below B a (((w.setCell ⟨x, 0, none⟩ p).setCell ⟨x, 1, none⟩ q).setCell ⟨x, 2, none⟩ r) :=
  ((h.setCell (p := ⟨x, 0, none⟩) hx p).setCell (p := ⟨x, 1, none⟩) hx q).setCell (p := ⟨x, 2, none⟩) hx r

set_option maxHeartbeats 4000000 in
set_option maxRecDepth 20000 in
theorem reliefOf_shape (v : Value) (lo hi : Nat) (g : G) (w : World) (hv : RdM lo hi w v g) (hh : hi ≤ w.heap.size) (hs : g.Shape) :
    Calls Try.prog 68 #[v] w fun e w' => (g.Valid → RelYes g w e w') ∧ (¬ g.Valid → RelNo w e w') := by
  obtain ⟨W0, hW0⟩ : ∃ W0, W0 = (w.alloc (.cells #[v] 22)).alloc (.cells #[.int .i64 0, .int .i64 0, .slice none 0 0] 39) := ⟨_, rfl⟩
  have hB0 : Below w.heap.size w W0 := by rw [hW0]; exact ((Below.refl _ _).alloc (Nat.le_refl _) _).alloc (by simp) _
  have hv0 : RdM lo hi W0 v g := hv.same (SameIn.below hB0 hh)
  rw [hW0] at hv0
  have hcon := shapeFits_any v lo hi g _ hv0
  rw [G.shB_yes hs] at hcon
  have HC := Lib.hid hcon
  have HV := Lib.hid hv0
  have HS := Lib.hid hs
  obtain ⟨ao, cap, b, off, Ao, Cp, rfl, a2, a3, a5, a6, a7⟩ := hv
  obtain ⟨rfl, hb1, hb2⟩ := a5 (by have := hs.1; omega)
  have hbw : b < w.heap.size := by omega
  have hn0 : (0 : Int) < g.n := by have := hs.1; omega
  have hn1 : 0 < g.n := by omega
  have q0 : w.cell? ⟨b, off, none⟩ = some (.slice (Ao 0) (g.len 0) (Cp 0)) := by simpa using a6 0 (by omega)
  have q1 : ∀ o1 o2, ((w.alloc o1).alloc o2).cell? ⟨b, off, none⟩ = some (.slice (Ao 0) (g.len 0) (Cp 0)) := fun o1 o2 => by
    rw [World.cell?_of_block (a := ⟨b, off, none⟩) (Below.heap_alloc _ o2 b (by simp; omega)), World.cell?_of_block (a := ⟨b, off, none⟩) (Below.heap_alloc _ o1 b hbw)]; exact q0
  have q2 : ∀ o1 o2 o3, (((w.alloc o1).alloc o2).alloc o3).cell? ⟨b, off, none⟩ = some (.slice (Ao 0) (g.len 0) (Cp 0)) := fun o1 o2 o3 => by
    rw [World.cell?_of_block (a := ⟨b, off, none⟩) (Below.heap_alloc _ o3 b (by simp; omega))]; exact q1 o1 o2
  have k1 : ((w.alloc (.cells #[.slice (some ⟨b, off, none⟩) g.n cap] 22)).alloc (.cells #[.int .i64 0, .int .i64 0, .slice none 0 0] 39)).cell? ⟨w.heap.size, 0, none⟩ = some (.slice (some ⟨b, off, none⟩) g.n cap) := by
    have := heap_alloc2_old w (.cells #[.slice (some ⟨b, off, none⟩) g.n cap] 22) (.cells #[.int .i64 0, .int .i64 0, .slice none 0 0] 39)
    simp [World.cell?, this]
  have K1 := Lib.hid k1
  have k2 : ∀ o, (((w.alloc (.cells #[.slice (some ⟨b, off, none⟩) g.n cap] 22)).alloc (.cells #[.int .i64 0, .int .i64 0, .slice none 0 0] 39)).alloc o).cell? ⟨w.heap.size, 0, none⟩ = some (.slice (some ⟨b, off, none⟩) g.n cap) := fun o =>
    (World.cell?_of_block (a := ⟨w.heap.size, 0, none⟩) (Below.heap_alloc _ o w.heap.size (by simp; omega))).trans k1
  have K2 := Lib.hid k2
  have HV2 := Lib.hid (show ∀ o, RdM lo hi (((w.alloc (.cells #[.slice (some ⟨b, off, none⟩) g.n cap] 22)).alloc (.cells #[.int .i64 0, .int .i64 0, .slice none 0 0] 39)).alloc o) (.slice (some ⟨b, off, none⟩) g.n cap) g from fun o => hv0.same (fun k _ hk => Below.heap_alloc _ o k (by simp; omega)))
  clear hcon hv0 hB0 hW0 a5 a6 a7 hs q0 k1 k2
  go_enter Try.func68, Try.ntmps68
  go_wp2_with fail
  refine HC.out.mono ?_
  rintro e w' ⟨rfl, rfl⟩
  go_upto_region 3 with fail
  go_cut [4] (fun s4 wx => RelMid g w s4 wx)
  case first =>
    go_region_held3 (fun w' => w'.cell? ⟨w.heap.size, 0, none⟩ = some (.slice (some ⟨b, off, none⟩) g.n cap) ∧ w'.cell? ⟨b, off, none⟩ = some (.slice (Ao 0) (g.len 0) (Cp 0))) (first | go_keep | exact ⟨s1, s2⟩ | exact ⟨(cell3_far _ _ _ _ _ _ (by omega)).trans s1, (cell3_far _ _ _ _ _ _ (by omega)).trans s2⟩)
      (first | (go_at_call 81; refine (newRelief_of (.slice (some ⟨b, off, none⟩) g.n cap) lo hi w.heap.size g _ (by first | exact K1.out | exact K2.out _) (by first | exact HV.out | exact HV2.out _) (by simp; omega) HS.out).mono ?_; rintro e w2 ⟨n, gg, cap', xs, hn, rfl, hown, hval, hbel⟩; have hsz2 := hbel.size; simp at hsz2; have s1 : w2.cell? ⟨w.heap.size, 0, none⟩ = some (.slice (some ⟨b, off, none⟩) g.n cap) := (hbel.cell (p := ⟨w.heap.size, 0, none⟩) (by simp; omega)).trans (by first | exact K1.out | exact K2.out _); have s2 : w2.cell? ⟨b, off, none⟩ = some (.slice (Ao 0) (g.len 0) (Cp 0)) := (hbel.cell (p := ⟨b, off, none⟩) (by simp; omega)).trans (by first | exact q1 _ _ | exact q2 _ _ _); have Hn := Lib.hid hn; have Hval := Lib.hid hval; have Hbel := Lib.hid hbel; (try (have hH := (hbel.block (w.heap.size + 1 + 1) (by simp)).trans (heap_alloc3_new w _ _ _); obtain ⟨c0, c1, c2, f0, f1, f2⟩ := cells3 hH; have HH := Lib.hid hH; clear hH)); clear hn hval hbel))
    all_goals go_wp2_with fail
    all_goals go_meet
    all_goals first | exact relMid_a Hn.out (ownsRow_base hown (by simp)) Hval.out (below_cast Hbel.out (by simp)) | exact relMid_b Hn.out (ownsRow_base hown (by simp)) Hval.out (below_cast Hbel.out (by simp))
  case rest =>
    obtain ⟨H, n, gg, cap', xs, hn, rfl, hH, hloc, hown, hval, hbel, hres⟩ := hcut
    have hsh := HS.out
    have hn' : n ≤ 49 := by rw [hn]; exact Nat.mul_le_mul hsh.1.2 hsh.2.1.2
    obtain ⟨c0, c1, c2, f0, f1, f2⟩ := cells3 hloc
    have hgl := hown.lt gg rfl
    have hcon := valid_any g.n (g.len 0) n gg cap' g.flat wc (fun i hi => by
      have := hown.cellAt i (by omega)
      rw [this]; exact hval i hi) (by omega) hgl.2 (by have := hsh.1.2; omega) (by have := hsh.2.1.2; omega)
    have HCV := Lib.hid hcon
    have HR := Lib.hid hres
    have HN := Lib.hid hn
    have HL := Lib.hid hloc
    have HVAL := Lib.hid hval
    clear hcon hres hn hloc hval f0 f1 f2
    by_cases hval : g.Valid
    · have hB : relB g.n (g.len 0) n g.flat = true := relB_yes (rel_ok hval HN.out)
      have HB := Lib.hid hB
      clear hB
      go_wp2_with fail
      refine HCV.out.mono ?_
      rintro e w3 ⟨rfl, hb3⟩
      rw [HB.out]
      have L3 := (hb3.block H (lt_of_block HL.out)).trans HL.out
      have R3 := (hb3.block (w.heap.size + 1) (lt_of_block HR.out)).trans HR.out
      obtain ⟨d0, d1, d2, _, _, _⟩ := cells3 L3
      obtain ⟨r0, r1, r2, g0, g1, g2⟩ := cells3 R3
      have HL3 := Lib.hid L3
      have HR3 := Lib.hid R3
      clear L3 R3 c0 c1 c2
      have hE := three_set w3 (w.heap.size + 1) _ _ _ (.int .i64 g.n) (.int .i64 (g.len 0)) (.slice (some ⟨gg, 0, none⟩) n cap') HR3.out
      have HE := Lib.hid hE
      have O1 := own3 (ownsRow_base (hown.of_below hb3 (by intro k hk; exact (hown.lt k hk).2)) (Nat.le_add_right w.heap.size 2)) (x := w.heap.size + 1) (by have := hgl.1; omega) (.int .i64 g.n) (.int .i64 (g.len 0)) (.slice (some ⟨gg, 0, none⟩) n cap')
      have B1 := below3 (hbel.trans (hb3.mono hbel.size)) (x := w.heap.size + 1) (by omega) (.int .i64 g.n) (.int .i64 (g.len 0)) (.slice (some ⟨gg, 0, none⟩) n cap')
      clear hE
      go_wp2
      exact bodyPost_ret (results_cell_row_tmp rfl _ _ (w.heap.size + 1) _ #[.int .i64 g.n, .int .i64 (g.len 0), .slice (some ⟨gg, 0, none⟩) n cap'] _ _ rfl HE.out Try.underlying39 rfl Try.sizeRel (.bool true) rfl) rfl
        ⟨fun _ => ⟨n, gg, cap', xs, HN.out, rfl, O1, HVAL.out, B1⟩, fun h => absurd hval h⟩
    · have hB : relB g.n (g.len 0) n g.flat = false := relB_no (rel_no HS.out hval HN.out)
      have HB := Lib.hid hB
      clear hB
      go_wp2_with fail
      refine HCV.out.mono ?_
      rintro e w3 ⟨rfl, hb3⟩
      rw [HB.out]
      have R3 := (hb3.block (w.heap.size + 1) (lt_of_block HR.out)).trans HR.out
      obtain ⟨r0, r1, r2, g0, g1, g2⟩ := cells3 R3
      have HR3 := Lib.hid R3
      clear R3 c0 c1 c2
      have hE := three_set w3 (w.heap.size + 1) _ _ _ (.int .i64 0) (.int .i64 0) (.slice none 0 0) HR3.out
      have HE := Lib.hid hE
      have B1 := below3 (hbel.trans (hb3.mono hbel.size)) (x := w.heap.size + 1) (by omega) (.int .i64 0) (.int .i64 0) (.slice none 0 0)
      clear hE
      go_wp2
      exact bodyPost_ret (results_cell_row_tmp rfl _ _ (w.heap.size + 1) _ #[.int .i64 0, .int .i64 0, .slice none 0 0] _ _ rfl HE.out Try.underlying39 rfl Try.sizeRel (.bool false) rfl) rfl
        ⟨fun h => absurd h hval, fun _ => ⟨rfl, B1⟩⟩

theorem reliefOf_yes (v : Value) (lo hi : Nat) (g : G) (w : World) (hv : RdM lo hi w v g) (hh : hi ≤ w.heap.size) (h : g.Valid) :
    Calls Try.prog 68 #[v] w (RelYes g w) :=
  (reliefOf_shape v lo hi g w hv hh ⟨h.1, h.2.1, fun r hr => (h.2.2 r hr).1⟩).mono fun _ _ hp => hp.1 h

theorem reliefOf_no (v : Value) (lo hi : Nat) (g : G) (w : World) (hv : RdM lo hi w v g) (hh : hi ≤ w.heap.size) (h : ¬ g.Valid) :
    Calls Try.prog 68 #[v] w (RelNo w) := by
  by_cases hs : g.Shape
  · exact (reliefOf_shape v lo hi g w hv hh hs).mono fun _ _ hp => hp.2 h
  · exact reliefOf_bad v lo hi g w hv hh hs

end Go.Proofs.Ytdjlobppnhokoaa
