/- Peaks of the program: cells that can be ranked, and whether a cell is a peak. -/
import Derived.Test.YtcfeckpbjdipeaaPkZ
import Derived.Test.YtcfeckpbjdipeaaWtZ
import Derived.Test.YtcfeckpbjdipeaaImplG
import Derived.Test.YtcfeckpbjdipeaaSkZ
namespace Go.Proofs.Ytcfeckpbjdipeaa
open Go.RowKit Go.Shelf
set_option linter.unusedVariables false
attribute [local go_sem] Oper.semAt_some

theorem cells2P {w : World} {b : Nat} {x y : Value} {t : TypeId} (h : w.heap[b]? = some (.cells #[x, y] t (0, 0))) :
    w.cell? ⟨b, 0, none⟩ = some x ∧ w.cell? ⟨b, 1, none⟩ = some y ∧ w.frozen? ⟨b, 0, none⟩ = false ∧ w.frozen? ⟨b, 1, none⟩ = false := by
  simp [World.cell?, World.frozen?, h]
theorem two_set (w : World) (b : Nat) (x y x' y' : Value) {t : TypeId} (h : w.heap[b]? = some (.cells #[x, y] t (0, 0))) :
    ((w.setCell ⟨b, 0, none⟩ x').setCell ⟨b, 1, none⟩ y').heap[b]? = some (.cells #[x', y'] t (0, 0)) := by
  have h1 := heap_setCell_same w b 0 #[x, y] t x' h
  have h2 := heap_setCell_same _ b 1 _ t y' h1
  rw [h2]
  simp
theorem Try.sizeSpot : (Try.prog.info? 93).map (·.size) = some 2 := by kernel_rfl

set_option maxHeartbeats 1000000 in
set_option maxRecDepth 20000 in
theorem above_any (x y : Int) (a b : Nat) (w : World) :
    Calls Try.prog 107 #[.agg #[.int .i64 x, .int .i64 a], .agg #[.int .i64 y, .int .i64 b]] w (BlPost (decide (y < x ∨ (x = y ∧ a < b))) w) := by
  have HB := Lib.hid (((Below.refl w.heap.size w).alloc (Nat.le_refl _) (.cells #[.int .i64 x, .int .i64 a] 93)).alloc (by simp) (.cells #[.int .i64 y, .int .i64 b] 93))
  have h1 := (Below.heap_alloc (w.alloc (.cells #[.int .i64 x, .int .i64 a] 93)) (.cells #[.int .i64 y, .int .i64 b] 93) w.heap.size (by simp)).trans (heap_alloc_new w (.cells #[.int .i64 x, .int .i64 a] 93))
  have h2 := heap_alloc_new (w.alloc (.cells #[.int .i64 x, .int .i64 a] 93)) (.cells #[.int .i64 y, .int .i64 b] 93)
  rw [World.size_alloc] at h2
  obtain ⟨c1, c2, _, _⟩ := cells2P h1
  obtain ⟨c3, c4, _, _⟩ := cells2P h2
  clear h1 h2
  by_cases e : x = y
  · have hne : (x != y) = false := by simp [e]
    have HE := Lib.hid (show decide ((a : Int) < b) = decide (y < x ∨ (x = y ∧ a < b)) by
      by_cases h : a < b
      · rw [decide_eq_true (by omega), decide_eq_true (Or.inr ⟨e, h⟩)]
      · rw [decide_eq_false (by omega), decide_eq_false (by omega)])
    clear e
    go_enter Try.func107, Try.ntmps107
    go_wp2
    go_ret
    exact ⟨by rw [← HE.out]; simp, HB.out⟩
  · have hne : (x != y) = true := by simp [e]
    have HE := Lib.hid (show decide (y < x) = decide (y < x ∨ (x = y ∧ a < b)) by
      by_cases h : y < x
      · rw [decide_eq_true h, decide_eq_true (Or.inl h)]
      · rw [decide_eq_false h, decide_eq_false (by omega)])
    clear e
    go_enter Try.func107, Try.ntmps107
    go_wp2
    go_ret
    exact ⟨by rw [← HE.out]; rfl, HB.out⟩

/-- what spot leaves -/
def SpPost (x : Int) (a : Nat) (w : World) (e : Ending) (w' : World) : Prop := e = .returned (.agg #[.int .i64 x, .int .i64 a]) ∧ Below w.heap.size w w'

set_option maxHeartbeats 1000000 in
set_option maxRecDepth 20000 in
theorem spot_any (R C gg cap cnt : Nat) (Z : Nat → Int) (k : Nat) (w : World) (h : Rv w R C cnt gg cap Z) (hk : k < cnt) (hc : cnt ≤ 1000) :
    Calls Try.prog 101 #[.agg #[.int .i64 R, .int .i64 C, .slice (some ⟨gg, 0, none⟩) cnt cap], .int .i64 k] w (SpPost (Z k) k w) := by
  have hb := ((Below.refl w.heap.size w).alloc (Nat.le_refl _) (.cells #[.int .i64 R, .int .i64 C, .slice (some ⟨gg, 0, none⟩) cnt cap] 50)).alloc (by simp) (.cells #[.int .i64 0, .int .i64 0] 93)
  have c1 := (h.keep hb (Nat.le_refl _)).cell k hk
  have hle := h.le
  have HB := Lib.hid hb
  have hk' : (k : Int) < cnt := by omega
  have h1 := (Below.heap_alloc (w.alloc (.cells #[.int .i64 R, .int .i64 C, .slice (some ⟨gg, 0, none⟩) cnt cap] 50)) (.cells #[.int .i64 0, .int .i64 0] 93) w.heap.size (by simp)).trans (heap_alloc_new w (.cells #[.int .i64 R, .int .i64 C, .slice (some ⟨gg, 0, none⟩) cnt cap] 50))
  have h2 := heap_alloc_new (w.alloc (.cells #[.int .i64 R, .int .i64 C, .slice (some ⟨gg, 0, none⟩) cnt cap] 50)) (.cells #[.int .i64 0, .int .i64 0] 93)
  rw [World.size_alloc] at h2
  obtain ⟨_, _, d2, _, _, _⟩ := cells3 h1
  obtain ⟨e0, e1, f0, f1⟩ := cells2P h2
  obtain ⟨z, ez⟩ : ∃ z, Z k = z := ⟨_, rfl⟩
  rw [ez] at c1 ⊢
  have HE := Lib.hid (heap_alloc_new (w.alloc (.cells #[.int .i64 R, .int .i64 C, .slice (some ⟨gg, 0, none⟩) cnt cap] 50)) (.cells #[.int .i64 z, .int .i64 k] 93))
  have HB3 := Lib.hid (((Below.refl w.heap.size w).alloc (Nat.le_refl _) (.cells #[.int .i64 R, .int .i64 C, .slice (some ⟨gg, 0, none⟩) cnt cap] 50)).alloc (by simp) (.cells #[.int .i64 z, .int .i64 k] 93))
  clear h hb hk ez h1 h2
  go_enter Try.func101, Try.ntmps101
  go_wp2
  exact bodyPost_ret (results_cell_row rfl _ _ (w.heap.size + 1) _ #[.int .i64 z, .int .i64 k] _ _ rfl (by have := HE.out; rw [World.size_alloc] at this; exact this) Try.underlying93 rfl Try.sizeSpot) rfl ⟨rfl, HB3.out⟩

set_option maxHeartbeats 1000000 in
set_option maxRecDepth 20000 in
theorem hasIndex_any (R C gg cap cnt : Nat) (i : Int) (w : World) (hc : cnt ≤ 1000) :
    Calls Try.prog 103 #[.agg #[.int .i64 R, .int .i64 C, .slice (some ⟨gg, 0, none⟩) cnt cap], .int .i64 i] w (BlPost (decide (0 ≤ i ∧ i < cnt)) w) := by
  have HB := Lib.hid ((Below.refl w.heap.size w).alloc (Nat.le_refl _) (.cells #[.int .i64 R, .int .i64 C, .slice (some ⟨gg, 0, none⟩) cnt cap] 50))
  obtain ⟨_, _, d2, _, _, _⟩ := cells3 (heap_alloc_new w (.cells #[.int .i64 R, .int .i64 C, .slice (some ⟨gg, 0, none⟩) cnt cap] 50))
  by_cases h0 : 0 ≤ i
  · have hd : decide (0 ≤ i) = true := by simp [h0]
    have HE := Lib.hid (show decide (i < (cnt : Int)) = decide (0 ≤ i ∧ i < (cnt : Int)) by
      by_cases h : i < (cnt : Int)
      · rw [decide_eq_true h, decide_eq_true ⟨h0, h⟩]
      · rw [decide_eq_false h, decide_eq_false (by omega)])
    go_enter Try.func103, Try.ntmps103
    go_wp2
    go_ret
    exact ⟨by rw [← HE.out]; rfl, HB.out⟩
  · have hd : decide (0 ≤ i) = false := by simp; omega
    have HE := Lib.hid (show false = decide (0 ≤ i ∧ i < (cnt : Int)) by rw [decide_eq_false (by omega)])
    clear h0
    go_enter Try.func103, Try.ntmps103
    go_wp2
    go_ret
    exact ⟨by rw [← HE.out]; rfl, HB.out⟩

theorem five_allocs (w : World) (o1 o2 o3 o4 o5 : Obj) : let W := ((((w.alloc o1).alloc o2).alloc o3).alloc o4).alloc o5
    W.heap[w.heap.size]? = some o1 ∧ W.heap[w.heap.size + 1]? = some o2 ∧ W.heap[w.heap.size + 1 + 1]? = some o3 ∧ W.heap[w.heap.size + 1 + 1 + 1]? = some o4 ∧ W.heap[w.heap.size + 1 + 1 + 1 + 1]? = some o5 ∧ W.heap.size = w.heap.size + 5 ∧ Below w.heap.size w W := by
  intro W
  obtain ⟨k1, k2, k3, k4, ks, kb⟩ := four_allocs w o1 o2 o3 o4
  have b5 := fun k hk => Below.heap_alloc ((((w.alloc o1).alloc o2).alloc o3).alloc o4) o5 k hk
  refine ⟨(b5 _ (by omega)).trans k1, (b5 _ (by omega)).trans k2, (b5 _ (by omega)).trans k3, (b5 _ (by omega)).trans k4, ?_, ?_, kb.alloc kb.size _⟩
  · have := heap_alloc_new ((((w.alloc o1).alloc o2).alloc o3).alloc o4) o5
    rw [ks] at this
    exact this
  · show (((((w.alloc o1).alloc o2).alloc o3).alloc o4).alloc o5).heap.size = _
    rw [World.size_alloc, ks]

/-- a region of a round in which operations and callees write into new memory alone -/
theorem below_round {F : Fence} {n : Nat} {P : Program} {id : Nat} {Q : Exit → Act → World → Prop} {a : Act} {w : World} {l : List Oper} (B : Nat) (l0 : Nat) (hro : F.round = none) (hm : P.follows .mixedOrders = true) (hB : Region.lexB .any l.toArray = true) (hnd : noDefer l = true)
    (h : wpQuietIn F n P l.toArray (fun w' => Below B w w') (fun a' => ∀ w', Below B w w' → Q .normal a' w') l a) : (Code.region id l.toArray true).wpIn (F.inRound l0) n P Q a w := by
  simp only [Region.lexB, Bool.and_eq_true] at hB
  refine wpIn_region_any hm (any_round l0 hro (by simpa using hnd) _ _ _ _ (wpAnyIn_of_quiet (C := fun w' => Below B w w') (Q := fun a' => ∀ w', Below B w w' → Q .normal a' w') hro (fun _ w' hw' h => h w' hw') _ _ _ _ (below_drewN (Below.refl B w) 1) ?_))
  have := wpAnyQIn_lex (F := F) (n := n) (C := fun w' => Below B w w') (md := .any) hB.1 l 0 (Array.replicate l.toArray.size false) a (by simp) (by simpa using hB.2) h
  simpa using this

/-- a call of a round's region, by its callee's contract -/
theorem quiet_call {n : Nat} {P : Program} {a : Act} {C : World → Prop} {o : Oper} {K : Act → Prop} (f : Nat) (args : Array Value) (v : Value) (hrun : ∀ w, (execOp a.eval o).run P w = .ok (.enter f args) w)
    (hc : ∀ w, C w → Calls P f args w (fun e w'' => e = .returned v ∧ C w'')) (hk : K (a.put o.dst v)) : o.quietIn Fence.wide n P a C K :=
  ⟨v, fun w hw => by
    unfold Oper.quietAtIn
    rw [hrun w]
    exact ⟨rfl, fun h => (by cases h), callsIn_wide.2 (hc w hw)⟩, hk⟩
/-- a load of a round's region -/
theorem quiet_load {n : Nat} {P : Program} {a : Act} {C : World → Prop} {o : Oper} {K : Act → Prop} (v : Value) (hrun : ∀ w, C w → (execOp a.eval o).run P w = .ok (.value v) w) (hk : K (a.put o.dst v)) : o.quietIn Fence.wide n P a C K :=
  ⟨v, fun w hw => by
    unfold Oper.quietAtIn
    rw [hrun w hw]
    exact ⟨rfl, rfl⟩, hk⟩

theorem others_belowP {W W' : World} (h : Below W.heap.size W W') : KeepsOthers W W' := ⟨h.size, fun k o ho _ => (h.block k (Array.getElem?_eq_some_iff.1 ho).1).trans ho⟩
theorem keep_blkP {β : Type} {B b : Nat} {o : Obj} (hb : b < B) : OwnFrom B (fun (_ : β) W => W.heap[b]? = some o) := fun s X Y row hs hg hrow =>
  (hg.block b (Array.getElem?_eq_some_iff.1 hs).1 (fun e => by have := (hrow b e.symm).1; omega)).trans hs

theorem load_row {P : Program} {a : Act} {o : Oper} (ty : TypeId) (x : Operand) (ho : o.op = .load ty x) {b : Nat} {w : World} (hx : a.eval x = .pointer (some ⟨b, 0, none⟩)) (t : TypeId) (cs : Array Value) (fr : Nat × Nat) (d : TypeDesc)
    (hg : w.heap[b]? = some (.cells cs t fr)) (hu : P.underlying ty = some d) (hd : (match d with | .struct _ | .array _ _ => true | _ => false) = true) (hi : (P.info? ty).map (·.size) = some cs.size) :
    (execOp a.eval o).run P w = .ok (.value (.agg cs)) w := by
  unfold execOp
  simp only [ho, hx, Instr.loadAt, Instr.sureAddr, Sem.run_bind, Sem.run_pure, Result.andThen_ok, run_loadVar_row w b t ty cs fr d hg hu hd hi]

set_option maxRecDepth 100000 in
set_option maxHeartbeats 4000000 in
theorem isPeak_any (R C gg cap cnt : Nat) (hR : R ≤ 7) (hC : C ≤ 7) (Z : Nat → Int) (i : Ix (R * C)) (w : World) (h : Rv w R C cnt gg cap Z) :
    Calls Try.prog 79 #[.agg #[.int .i64 R, .int .i64 C, .slice (some ⟨gg, 0, none⟩) cnt cap], .int .i64 i.1] w (BlPost (pkQ R C Z i) w) := by
  have H := Lib.hid h
  have h49 := mul_le_49 hR hC
  clear h
  refine (callsIn_wide (n := 5)).1 ?_
  refine callsIn_of_wp_marks Try.func79 rfl trivial ?_ rfl
  simp only [Try.ntmps79, List.size_toArray, List.length_cons, List.length_nil, Nat.reduceAdd, Nat.reduceSub, Array.replicate_succ, Array.replicate_zero, List.push_toArray, List.append_toArray, List.nil_append, List.cons_append]
  gi_wp2_with (refine ⟨trivial, ?_⟩; gi_at_call 117; refine (callsIn_wide.2 (nb_any R C gg cnt cap i.1 _)).mono ?_; rintro e w' ⟨rfl, rfl⟩)
  obtain ⟨k1, k2, k3, k4, k5, ksz, kb⟩ := five_allocs w (.cells #[.int .i64 R, .int .i64 C, .slice (some ⟨gg, 0, none⟩) cnt cap] 50) (.cells #[.int .i64 i.1] 3) (.cells #[.bool false] 4) (.cells #[.int .i64 R, .int .i64 C, .slice (some ⟨gg, 0, none⟩) cnt cap] 50) (.cells #[.int .i64 i.1] 3)
  generalize hW0 : ((((w.alloc (.cells #[.int .i64 R, .int .i64 C, .slice (some ⟨gg, 0, none⟩) cnt cap] 50)).alloc (.cells #[.int .i64 i.1] 3)).alloc (.cells #[.bool false] 4)).alloc (.cells #[.int .i64 R, .int .i64 C, .slice (some ⟨gg, 0, none⟩) cnt cap] 50)).alloc (.cells #[.int .i64 i.1] 3) = W0 at k1 k2 k3 k4 k5 ksz kb ⊢
  clear hW0
  have hle : cnt ≤ cap := H.out.le
  have HCN := Lib.hid H.out.n_eq
  have hgl : gg < w.heap.size := H.out.lt
  have hMC := three_cells k4
  refine wpIn_rangeFunc_ownF rfl (by omega) (gf := 129) (lb := #[.pointer (some ⟨w.heap.size + 1 + 1 + 1 + 1, 0, none⟩), .pointer (some ⟨w.heap.size + 1 + 1 + 1, 0, none⟩)]) rfl trivial (enters_of Try.func129 (by kernel_rfl) rfl)
    (nb_stops 4 (by omega) (w.heap.size + 1 + 1 + 1 + 1) (w.heap.size + 1 + 1 + 1) R C gg cap cnt hR hC i W0 (by omega) (by omega) (one_cell k5) hMC) Kb.trans (kb_b (by omega)) (Below.refl _ _) (fun _ => rfl)
    (fun pre W => ((((pkL Z i.1 pre = true ∧ W.heap[w.heap.size]? = some (.cells #[.int .i64 R, .int .i64 C, .slice (some ⟨gg, 0, none⟩) cnt cap] 50 (0, 0))) ∧ W.heap[w.heap.size + 1]? = some (.cells #[.int .i64 i.1] 3 (0, 0))) ∧ W.heap[w.heap.size + 1 + 1]? = some (.cells #[.bool false] 4 (0, 0))) ∧ W.heap[w.heap.size + 1 + 1 + 1]? = some (.cells #[.int .i64 R, .int .i64 C, .slice (some ⟨gg, 0, none⟩) cnt cap] 50 (0, 0))) ∧ Below w.heap.size w W)
    (fun c pre W => ((c = .ret ∧ pkL Z i.1 pre = false) ∧ W.heap[w.heap.size + 1 + 1]? = some (.cells #[.bool false] 4 (0, 0))) ∧ Below w.heap.size w W)
    (OwnFrom.and (OwnFrom.and (OwnFrom.and (OwnFrom.and (OwnFrom.and (fun _ _ _ _ hs _ _ => hs) (keep_blkP (by omega))) (keep_blkP (by omega))) (keep_blkP (by omega))) (keep_blkP (by omega))) (ownFrom_below (Nat.le_refl _) (by omega)))
    (fun c => OwnFrom.and (OwnFrom.and (fun _ _ _ _ hs _ _ => hs) (keep_blkP (by omega))) (ownFrom_below (Nat.le_refl _) (by omega)))
    ⟨⟨⟨⟨⟨rfl, k1⟩, k2⟩, k3⟩, k4⟩, kb⟩
    (fun x => { tmps := #[.agg #[.int .i64 R, .int .i64 C, .slice (some ⟨gg, 0, none⟩) cnt cap], .int .i64 i.1, .pointer (some ⟨w.heap.size, 0, none⟩), .pointer (some ⟨w.heap.size + 1, 0, none⟩), .pointer (some ⟨w.heap.size + 1 + 1, 0, none⟩), .int .i64 x.1, .agg #[.int .i64 R, .int .i64 C, .slice (some ⟨gg, 0, none⟩) cnt cap], .int .i64 i.1, .func (.func 129) #[] #[.pointer (some ⟨w.heap.size + 1 + 1 + 1 + 1, 0, none⟩), .pointer (some ⟨w.heap.size + 1 + 1 + 1, 0, none⟩)], .int .i64 x.1, undef, undef, undef, undef, undef, undef, undef], defers := [] }) ?assign ?body ?done ?stop
  case assign =>
    intro l x W K hK
    gi_wp2
    exact hK
  case body =>
    rintro l pre x W ⟨⟨⟨⟨⟨hp, m1⟩, m2⟩, m3⟩, m4⟩, hB⟩ _
    have hS4 : w.heap.size + 1 + 1 + 1 < W.heap.size := (Array.getElem?_eq_some_iff.1 m4).1
    have M4 := Lib.hid m4
    have hS : w.heap.size + 1 + 1 < W.heap.size := (Array.getElem?_eq_some_iff.1 m3).1
    have M1 := Lib.hid m1
    have M2 := Lib.hid m2
    have M3 := Lib.hid m3
    have HB := Lib.hid hB
    have HP := Lib.hid hp
    have HRV := Lib.hid (H.out.keep hB (Nat.le_refl _))
    have hcn : cnt = R * C := HCN.out
    have hxc : x.1 < cnt := by rw [hcn]; exact x.2
    have hic : i.1 < cnt := by rw [hcn]; exact i.2
    have HSX := Lib.hid (fun (U : World) (hU : Below W.heap.size W U) => spot_any R C gg cap cnt Z x.1 U (HRV.out.keep hU (Nat.le_refl _)) hxc (by omega))
    have HSI := Lib.hid (fun (U : World) (hU : Below W.heap.size W U) => spot_any R C gg cap cnt Z i.1 U (HRV.out.keep hU (Nat.le_refl _)) hic (by omega))
    have HAB := Lib.hid (fun (U : World) => above_any (Z x.1) (Z i.1) x.1 i.1 U)
    have HHI := Lib.hid (show decide (Z i.1 < Z x.1 ∨ (Z x.1 = Z i.1 ∧ x.1 < i.1)) = hiB Z x.1 i.1 from rfl)
    clear hp m1 m2 m3 m4 hB hcn
    obtain ⟨t, ht⟩ : ∃ t, hiB Z x.1 i.1 = t := ⟨_, rfl⟩
    have HAB2 := Lib.hid (fun (U : World) => show Calls Try.prog 107 #[.agg #[.int .i64 (Z x.1), .int .i64 x.1], .agg #[.int .i64 (Z i.1), .int .i64 i.1]] U (BlPost t U) from by rw [← ht]; exact HAB.out U)
    have HT := Lib.hid ht
    obtain ⟨zx, ezx⟩ : ∃ zx, Z x.1 = zx := ⟨_, rfl⟩
    obtain ⟨zi, ezi⟩ : ∃ zi, Z i.1 = zi := ⟨_, rfl⟩
    rw [ezx] at HSX HAB2
    rw [ezi] at HSI HAB2
    clear HAB HHI ht ezx ezi
    gi_wp2
    refine below_round W.heap.size l rfl (by kernel_rfl) (by kernel_rfl) (by kernel_rfl) ?_
    refine BigFrame.wpQuietIn_want (fun _ _ _ _ => trivial) rfl (fun K hK => ?_)
    refine quiet_load (.agg #[.int .i64 R, .int .i64 C, .slice (some ⟨gg, 0, none⟩) cnt cap]) (fun U hU => load_row 50 (.tmp 2) rfl rfl _ _ _ _ ((hU.block _ (by omega)).trans M1.out) Try.underlying50 rfl Try.sizeRel) (hK _ ?_)
    simp only [Act.put, List.setIfInBounds_toArray, List.set_cons_zero, List.set_cons_succ]
    refine BigFrame.wpQuietIn_want (fun _ _ _ _ => trivial) rfl (fun K hK => ?_)
    refine BigFrame.quietIn_move (.tmp 5) rfl (hK _ ?_)
    simp only [Act.put, List.setIfInBounds_toArray, List.set_cons_zero, List.set_cons_succ]
    refine BigFrame.wpQuietIn_want (fun _ _ _ _ => trivial) rfl (fun K hK => ?_)
    refine quiet_call 101 #[.agg #[.int .i64 R, .int .i64 C, .slice (some ⟨gg, 0, none⟩) cnt cap], .int .i64 x.1] (.agg #[.int .i64 zx, .int .i64 x.1]) (fun U => by simp [go_sem]) (fun U hU => (HSX.out U hU).mono (by rintro e U2 ⟨rfl, hb⟩; exact ⟨rfl, hU.trans (hb.mono hU.size)⟩)) (hK _ ?_)
    simp only [Act.put, List.setIfInBounds_toArray, List.set_cons_zero, List.set_cons_succ]
    refine BigFrame.wpQuietIn_want (fun _ _ _ _ => trivial) rfl (fun K hK => ?_)
    refine quiet_load (.agg #[.int .i64 R, .int .i64 C, .slice (some ⟨gg, 0, none⟩) cnt cap]) (fun U hU => load_row 50 (.tmp 2) rfl rfl _ _ _ _ ((hU.block _ (by omega)).trans M1.out) Try.underlying50 rfl Try.sizeRel) (hK _ ?_)
    simp only [Act.put, List.setIfInBounds_toArray, List.set_cons_zero, List.set_cons_succ]
    refine BigFrame.wpQuietIn_want (fun _ _ _ _ => trivial) rfl (fun K hK => ?_)
    refine quiet_load (.int .i64 i.1) (fun U hU => by have hc := one_cell ((hU.block _ (by omega)).trans M2.out); simp [go_sem, hc]) (hK _ ?_)
    simp only [Act.put, List.setIfInBounds_toArray, List.set_cons_zero, List.set_cons_succ]
    refine BigFrame.wpQuietIn_want (fun _ _ _ _ => trivial) rfl (fun K hK => ?_)
    refine quiet_call 101 #[.agg #[.int .i64 R, .int .i64 C, .slice (some ⟨gg, 0, none⟩) cnt cap], .int .i64 i.1] (.agg #[.int .i64 zi, .int .i64 i.1]) (fun U => by simp [go_sem]) (fun U hU => (HSI.out U hU).mono (by rintro e U2 ⟨rfl, hb⟩; exact ⟨rfl, hU.trans (hb.mono hU.size)⟩)) (hK _ ?_)
    simp only [Act.put, List.setIfInBounds_toArray, List.set_cons_zero, List.set_cons_succ]
    refine BigFrame.wpQuietIn_want (fun _ _ _ _ => trivial) rfl (fun K hK => ?_)
    refine quiet_call 107 #[.agg #[.int .i64 zx, .int .i64 x.1], .agg #[.int .i64 zi, .int .i64 i.1]] (.bool t) (fun U => by simp [go_sem]) (fun U hU => (HAB2.out U).mono (by rintro e U2 ⟨rfl, hb⟩; exact ⟨rfl, hU.trans (hb.mono hU.size)⟩)) (hK _ ?_)
    simp only [Act.put, List.setIfInBounds_toArray, List.set_cons_zero, List.set_cons_succ]
    refine wpQuietIn_nil ?_
    intro U hU
    have HU := Lib.hid hU
    have hUs := hU.size
    have c3 := one_cell ((hU.block _ hS).trans M3.out)
    have f3 : U.frozen? ⟨w.heap.size + 1 + 1, 0, none⟩ = false := by simp [World.frozen?, (hU.block _ hS).trans M3.out]
    clear hU
    cases t
    case false =>
      gi_wp2
      exact ⟨others_belowP HU.out, Kb.of_below HU.out (by omega), ⟨⟨⟨⟨pkL_step HP.out HT.out, (HU.out.block _ (by omega)).trans M1.out⟩, (HU.out.block _ (by omega)).trans M2.out⟩, (HU.out.block _ hS).trans M3.out⟩, (HU.out.block _ hS4).trans M4.out⟩, HB.out.trans (HU.out.mono HB.out.size)⟩
    case true =>
      gi_wp2
      exact ⟨(others_belowP HU.out).trans (KeepsOthers.setCell _ _ _), ⟨⟨rfl, by rw [pkL_snoc, HT.out]; simp⟩, by simpa using heap_setCell_same U (w.heap.size + 1 + 1) 0 #[.bool false] _ (.bool false) ((HU.out.block _ hS).trans M3.out)⟩, (HB.out.trans (HU.out.mono HB.out.size)).setCell (p := ⟨w.heap.size + 1 + 1, 0, none⟩) (show w.heap.size ≤ w.heap.size + 1 + 1 by omega) _⟩
  case done =>
    rintro D ys W hD rfl ⟨⟨⟨⟨⟨hp, m1⟩, m2⟩, m3⟩, m4⟩, hB⟩ hK
    have HP := Lib.hid (show pkQ R C Z i = true from hp)
    have HB := Lib.hid hB
    have hcr := one_cell m3
    have hfr : W.frozen? ⟨w.heap.size + 1 + 1, 0, none⟩ = false := by simp [World.frozen?, m3]
    clear hp m1 m2 m4 hB
    gi_wp2
    have hK' := (KeepsOthers.setCell W ⟨w.heap.size + 1 + 1, 0, none⟩ (.bool true)).same D _ hK rfl
    refine ⟨by simp, .inl ⟨_, _, rfl, run_takeDeferred hK', ?_⟩⟩
    have hc5 := cell_kept (World.cell?_setCell_same' W ⟨w.heap.size + 1 + 1, 0, none⟩ (.bool true) (by rw [hcr]; rfl)) (grownBy_putObj' _ D (.deferred none)) (fun r e => by cases e; exact ⟨_, hK', rfl⟩)
    refine ⟨.bool true, ?_, by rw [HP.out], (HB.out.setCell (p := ⟨w.heap.size + 1 + 1, 0, none⟩) (show w.heap.size ≤ w.heap.size + 1 + 1 by omega) _).trans (belowK_b (w := w) (Nat.le_refl _) _ D _ _ (by omega) hK' rfl rfl)⟩
    simp [results, Try.f79, go_sem, hc5]
  case stop =>
    rintro D c pre W hD hpre ⟨⟨⟨rfl, hp⟩, m3⟩, hB⟩ hK
    have HP := Lib.hid (show pkQ R C Z i = false by
      unfold pkL at hp
      rw [List.all_eq_false] at hp
      obtain ⟨y, hy, h2⟩ := hp
      exact pkL_hit (hpre.subset hy) (by simpa using h2))
    have HB := Lib.hid hB
    have hcr := one_cell m3
    clear hp hB
    gi_wp2
    refine ⟨by simp, .inl ⟨_, _, rfl, run_takeDeferred hK, ?_⟩⟩
    have hc5 := cell_kept hcr (grownBy_putObj' _ D (.deferred none)) (fun r e => by cases e; exact ⟨_, hK, rfl⟩)
    refine ⟨.bool false, ?_, by rw [HP.out], HB.out.trans (belowK_b (w := w) (Nat.le_refl _) _ D _ _ (by omega) hK rfl rfl)⟩
    simp [results, Try.f79, go_sem, hc5]

end Go.Proofs.Ytcfeckpbjdipeaa

/- Reliefs with cells, and of peaks, in the program; PeakIs. -/
namespace Go.Proofs.Ytcfeckpbjdipeaa
open Go.RowKit
set_option linter.unusedVariables false

/-- what a relief with cells leaves -/
def RwPost (p : Prop) (g : G) (w : World) (e : Ending) (w' : World) : Prop :=
  (p → ∃ n gg cap, e = .returned (.tuple #[.agg #[.int .i64 g.n, .int .i64 (g.len 0), .slice (some ⟨gg, 0, none⟩) n cap], .bool true]) ∧ Rv w' g.n (g.len 0) n gg cap g.flat ∧ w.heap.size ≤ gg ∧ Below w.heap.size w w') ∧ (¬ p → RelNo w e w')

theorem RwPost.yes {p : Prop} {g : G} {w w' : World} {e : Ending} (hp : p) (h : ∃ n gg cap, e = .returned (.tuple #[.agg #[.int .i64 g.n, .int .i64 (g.len 0), .slice (some ⟨gg, 0, none⟩) n cap], .bool true]) ∧ Rv w' g.n (g.len 0) n gg cap g.flat ∧ w.heap.size ≤ gg ∧ Below w.heap.size w w') : RwPost p g w e w' := ⟨fun _ => h, fun k => absurd hp k⟩
theorem RwPost.no {p : Prop} {g : G} {w w' : World} {e : Ending} (hp : ¬ p) (h : RelNo w e w') : RwPost p g w e w' := ⟨fun k => absurd k hp, fun _ => h⟩

theorem rv_set3 {w : World} {R C n gg cap : Nat} {Z : Nat → Int} (h : Rv w R C n gg cap Z) {b : Nat} (hb : gg ≠ b) (x y z : Value) : Rv (((w.setCell ⟨b, 0, none⟩ x).setCell ⟨b, 1, none⟩ y).setCell ⟨b, 2, none⟩ z) R C n gg cap Z :=
  ⟨h.n_eq, by simpa [World.setCell] using h.lt, h.le, fun i hi => (cell3_far _ _ _ _ _ _ hb).trans (h.cell i hi)⟩

set_option maxHeartbeats 4000000 in
set_option maxRecDepth 100000 in
theorem reliefWith_one (v : Value) (lo hi : Nat) (g : G) (i : Int) (b : Nat) (w : World) (hv : RdM lo hi w v g) (hh : hi ≤ w.heap.size) (hb : w.cell? ⟨b, 0, none⟩ = some (.int .i64 i)) :
    Calls Try.prog 62 #[v, .slice (some ⟨b, 0, none⟩) 1 1] w (RwPost (g.PkIn i) g w) := by
  have hbl := World.block_lt_of_cell? _ _ hb
  have hb0 := (Below.refl w.heap.size w).alloc (Nat.le_refl _) (.cells #[.int .i64 0, .int .i64 0, .slice none 0 0] 50)
  have HB0 := Lib.hid hb0
  have hv1 := hv.same (SameIn.below hb0 hh)
  have hh1 := Nat.le_trans hh hb0.size
  have HCB := Lib.hid ((hb0.cell (p := ⟨b, 0, none⟩) hbl).trans hb)
  by_cases hval : g.Valid
  case neg =>
    have HC := Lib.hid (reliefOf_no v lo hi g (w.alloc (.cells #[.int .i64 0, .int .i64 0, .slice none 0 0] 50)) hv1 hh1 hval)
    have HNP := Lib.hid (show ¬ g.PkIn i from fun h => hval h.1)
    clear hv hb0 hval hv1 hh1 hb
    go_enter Try.func62, Try.ntmps62
    go_wp2_with fail
    refine HC.out.mono ?_
    rintro e w1 ⟨rfl, hb1⟩
    have hs1 := hb1.size
    simp only [World.size_alloc] at hs1
    have hR := (hb1.block w.heap.size (by simp)).trans (heap_alloc_new w (.cells #[.int .i64 0, .int .i64 0, .slice none 0 0] 50))
    have hB1 := HB0.out.trans (hb1.mono (by simp))
    have hR2 := (Below.heap_alloc w1 (.cells #[.int .i64 0, .int .i64 0, .slice none 0 0] 50) w.heap.size (by omega)).trans hR
    have HB1 := Lib.hid (hB1.alloc (by omega) (.cells #[.int .i64 0, .int .i64 0, .slice none 0 0] 50))
    obtain ⟨r0, r1, r2, f0, f1, f2⟩ := cells3 hR2
    have HE := Lib.hid (three_set _ w.heap.size _ _ _ (.int .i64 0) (.int .i64 0) (.slice none 0 0) hR2)
    have HBB := Lib.hid (below3 HB1.out (Nat.le_refl w.heap.size) (.int .i64 0) (.int .i64 0) (.slice none 0 0))
    clear hb1 hR hB1 hR2
    go_wp2
    exact bodyPost_ret (results_cell_row_tmp rfl _ _ w.heap.size _ #[.int .i64 0, .int .i64 0, .slice none 0 0] _ _ rfl HE.out Try.underlying50 rfl Try.sizeRel (.bool false) rfl) rfl (RwPost.no HNP.out ⟨rfl, HBB.out⟩)
  case pos =>
    have HC := Lib.hid (reliefOf_yes v lo hi g (w.alloc (.cells #[.int .i64 0, .int .i64 0, .slice none 0 0] 50)) hv1 hh1 hval)
    have h49 := mul_le_49 hval.1.2 hval.2.1.2
    have HPI := Lib.hid (show (0 ≤ i ∧ i < (g.n * g.len 0 : Nat)) ↔ g.PkIn i from ⟨fun h => ⟨hval, h⟩, fun h => h.2⟩)
    clear hv hb0 hval hv1 hh1 hb
    go_enter Try.func62, Try.ntmps62
    go_wp2_with fail
    refine HC.out.mono ?_
    intro e w1 hq
    obtain ⟨n, gg, cap, xs, hnn, rfl, hown, hvals, hb1⟩ := hq
    have hrv := Rv.of_own hown hnn hvals
    have hgs := (hown.lt gg rfl).1
    simp only [World.size_alloc] at hgs
    have HNN := Lib.hid hnn
    have hn49 : n ≤ 49 := by omega
    have hs1 := hb1.size
    simp only [World.size_alloc] at hs1
    have hR := (hb1.block w.heap.size (by simp)).trans (heap_alloc_new w (.cells #[.int .i64 0, .int .i64 0, .slice none 0 0] 50))
    have hB1 := HB0.out.trans (hb1.mono (by simp))
    have HLOC := Lib.hid (heap_alloc_new w1 (.cells #[.int .i64 g.n, .int .i64 (g.len 0), .slice (some ⟨gg, 0, none⟩) n cap] 50))
    have HR := Lib.hid ((Below.heap_alloc w1 (.cells #[.int .i64 g.n, .int .i64 (g.len 0), .slice (some ⟨gg, 0, none⟩) n cap] 50) w.heap.size (by omega)).trans hR)
    have HRV := Lib.hid (hrv.keep ((Below.refl w1.heap.size w1).alloc (Nat.le_refl _) (.cells #[.int .i64 g.n, .int .i64 (g.len 0), .slice (some ⟨gg, 0, none⟩) n cap] 50)) (Nat.le_refl _))
    have HB1 := Lib.hid (hB1.alloc (by omega) (.cells #[.int .i64 g.n, .int .i64 (g.len 0), .slice (some ⟨gg, 0, none⟩) n cap] 50))
    have HCB1 := Lib.hid ((Below.cell ((Below.refl w1.heap.size w1).alloc (Nat.le_refl _) (.cells #[.int .i64 g.n, .int .i64 (g.len 0), .slice (some ⟨gg, 0, none⟩) n cap] 50)) (p := ⟨b, 0, none⟩) (show b < w1.heap.size by omega)).trans ((hb1.cell (p := ⟨b, 0, none⟩) (show b < (w.alloc (.cells #[.int .i64 0, .int .i64 0, .slice none 0 0] 50)).heap.size by simp; omega)).trans HCB.out))
    have hs2 : w1.heap.size + 1 ≤ (w1.alloc (.cells #[.int .i64 g.n, .int .i64 (g.len 0), .slice (some ⟨gg, 0, none⟩) n cap] 50)).heap.size := by simp
    clear hown hvals hrv hb1 hR hB1 hnn
    go_wp2
    generalize hW1 : w1.alloc (.cells #[.int .i64 g.n, .int .i64 (g.len 0), .slice (some ⟨gg, 0, none⟩) n cap] 50) = W1 at HLOC HR HRV HB1 HCB1 hs2 ⊢
    clear hW1
    go_loopw [9, 20] (fun _ x20 wr => ∃ k : Nat, k ≤ 1 ∧ x20 = .int .i64 k ∧ (k = 1 → g.PkIn i) ∧ Below W1.heap.size W1 wr) (fun _ x20 _ => 1 - (intOf x20).toNat)
    case atStart => exact ⟨0, by omega, rfl, fun h => (by omega), Below.refl _ _⟩
    case round =>
      obtain ⟨k, hk, rfl, hpk, hbk⟩ := hrel
      have HBK := Lib.hid hbk
      have hsk := hbk.size
      have HR2 := Lib.hid ((hbk.block w.heap.size (by omega)).trans HR.out)
      have HL2 := Lib.hid ((hbk.block w1.heap.size (by omega)).trans HLOC.out)
      have HPK := Lib.hid hpk
      clear hbk hpk
      obtain ⟨d0, d1, d2, _, _, _⟩ := cells3 HL2.out
      by_cases hk0 : k = 0
      case pos =>
        subst hk0
        have cb := (HBK.out.cell (p := ⟨b, 0, none⟩) (show b < W1.heap.size by omega)).trans HCB1.out
        by_cases hin : 0 ≤ i ∧ i < (n : Int)
        case pos =>
          have HIN := Lib.hid (hasIndex_any g.n (g.len 0) gg cap n i wr (by omega))
          have HP := Lib.hid (HPI.out.1 (by rw [← HNN.out]; exact hin))
          rw [decide_eq_true hin] at HIN
          clear hin
          go_wp2_with fail
          refine HIN.out.mono ?_
          rintro e w3 ⟨rfl, hb3⟩
          have HB3 := Lib.hid (HBK.out.trans (hb3.mono hsk))
          clear hb3
          go_wp2
          go_roundw
          case rel => exact ⟨1, Nat.le_refl _, by go_num, fun _ => HP.out, HB3.out⟩
          case measure => simp [intOf]
        case neg =>
          have HIN := Lib.hid (hasIndex_any g.n (g.len 0) gg cap n i wr (by omega))
          have HP := Lib.hid (show ¬ g.PkIn i from fun h => hin (by rw [HNN.out]; exact HPI.out.2 h))
          rw [decide_eq_false hin] at HIN
          clear hin
          go_wp2_with fail
          refine HIN.out.mono ?_
          rintro e w3 ⟨rfl, hb3⟩
          have hs3 := hb3.size
          have hR3 := (hb3.block w.heap.size (by omega)).trans HR2.out
          obtain ⟨r0, r1, r2, f0, f1, f2⟩ := cells3 hR3
          have HE := Lib.hid (three_set _ w.heap.size _ _ _ (.int .i64 0) (.int .i64 0) (.slice none 0 0) hR3)
          have HBB := Lib.hid (below3 (HB1.out.trans ((HBK.out.trans (hb3.mono hsk)).mono (by omega))) (Nat.le_refl w.heap.size) (.int .i64 0) (.int .i64 0) (.slice none 0 0))
          clear hb3 hR3
          go_wp2
          exact bodyPost_ret (results_cell_row_tmp rfl _ _ w.heap.size _ #[.int .i64 0, .int .i64 0, .slice none 0 0] _ _ rfl HE.out Try.underlying50 rfl Try.sizeRel (.bool false) rfl) rfl (RwPost.no HP.out ⟨rfl, HBB.out⟩)
      case neg =>
        obtain rfl : k = 1 := by omega
        have HP := Lib.hid (HPK.out rfl)
        obtain ⟨r0, r1, r2, f0, f1, f2⟩ := cells3 HR2.out
        have HE := Lib.hid (three_set _ w.heap.size _ _ _ (.int .i64 g.n) (.int .i64 (g.len 0)) (.slice (some ⟨gg, 0, none⟩) n cap) HR2.out)
        have HBB := Lib.hid (below3 (HB1.out.trans (HBK.out.mono (by omega))) (Nat.le_refl w.heap.size) (.int .i64 g.n) (.int .i64 (g.len 0)) (.slice (some ⟨gg, 0, none⟩) n cap))
        have HRV2 := Lib.hid (rv_set3 (HRV.out.keep HBK.out (Nat.le_refl _)) (show gg ≠ w.heap.size by omega) (.int .i64 g.n) (.int .i64 (g.len 0)) (.slice (some ⟨gg, 0, none⟩) n cap))
        clear hk0
        go_wp2
        exact bodyPost_ret (results_cell_row_tmp rfl _ _ w.heap.size _ #[.int .i64 g.n, .int .i64 (g.len 0), .slice (some ⟨gg, 0, none⟩) n cap] _ _ rfl HE.out Try.underlying50 rfl Try.sizeRel (.bool true) rfl) rfl (RwPost.yes HP.out ⟨n, gg, cap, rfl, HRV2.out, by omega, HBB.out⟩)

theorem pkB_in {g : G} {i : Int} (h : g.pkB i = true) : g.PkIn i := by
  apply Classical.byContradiction
  intro k
  rw [G.pkB_no k] at h
  cases h

set_option maxHeartbeats 4000000 in
set_option maxRecDepth 100000 in
theorem reliefOfPeak_any (v : Value) (lo hi : Nat) (g : G) (i : Int) (w : World) (hv : RdM lo hi w v g) (hh : hi ≤ w.heap.size) :
    Calls Try.prog 53 #[v, .int .i64 i] w (RwPost (g.pkB i = true) g w) := by
  have hb0 := ((Below.refl w.heap.size w).alloc (Nat.le_refl _) (.cells #[.int .i64 0, .int .i64 0, .slice none 0 0] 50)).alloc (by simp) (.cells #[.int .i64 i] 3)
  have HB0 := Lib.hid hb0
  have h1 := heap_alloc_new (w.alloc (.cells #[.int .i64 0, .int .i64 0, .slice none 0 0] 50)) (.cells #[.int .i64 i] 3)
  rw [World.size_alloc] at h1
  have HC := Lib.hid (reliefWith_one v lo hi g i (w.heap.size + 1) ((w.alloc (.cells #[.int .i64 0, .int .i64 0, .slice none 0 0] 50)).alloc (.cells #[.int .i64 i] 3)) (hv.same (SameIn.below hb0 hh)) (Nat.le_trans hh hb0.size) (one_cell h1))
  have HZ := Lib.hid ((Below.heap_alloc (w.alloc (.cells #[.int .i64 0, .int .i64 0, .slice none 0 0] 50)) (.cells #[.int .i64 i] 3) w.heap.size (by simp)).trans (heap_alloc_new w (.cells #[.int .i64 0, .int .i64 0, .slice none 0 0] 50)))
  have HSZ := Lib.hid (show ((w.alloc (.cells #[.int .i64 0, .int .i64 0, .slice none 0 0] 50)).alloc (.cells #[.int .i64 i] 3)).heap.size = w.heap.size + 2 by simp)
  clear hv hb0 h1
  by_cases hin : g.PkIn i
  case neg =>
    have HNP := Lib.hid (show ¬ g.pkB i = true from fun h => hin (pkB_in h))
    have HC2 := Lib.hid (HC.out.mono (fun e w' h => h.2 hin))
    clear hin HC
    go_enter Try.func53, Try.ntmps53
    go_wp2_with fail
    refine HC2.out.mono ?_
    rintro e w1 ⟨rfl, hb1⟩
    have hs1 := hb1.size
    rw [HSZ.out] at hs1
    have hR := (hb1.block w.heap.size (by rw [HSZ.out]; omega)).trans HZ.out
    have hB1 := HB0.out.trans (hb1.mono (by rw [HSZ.out]; omega))
    have hR2 := (Below.heap_alloc w1 (.cells #[.int .i64 0, .int .i64 0, .slice none 0 0] 50) w.heap.size (by omega)).trans hR
    have HB1 := Lib.hid (hB1.alloc (by omega) (.cells #[.int .i64 0, .int .i64 0, .slice none 0 0] 50))
    obtain ⟨r0, r1, r2, f0, f1, f2⟩ := cells3 hR2
    have HE := Lib.hid (three_set _ w.heap.size _ _ _ (.int .i64 0) (.int .i64 0) (.slice none 0 0) hR2)
    have HBB := Lib.hid (below3 HB1.out (Nat.le_refl w.heap.size) (.int .i64 0) (.int .i64 0) (.slice none 0 0))
    clear hb1 hR hB1 hR2
    go_wp2
    exact bodyPost_ret (results_cell_row_tmp rfl _ _ w.heap.size _ #[.int .i64 0, .int .i64 0, .slice none 0 0] _ _ rfl HE.out Try.underlying50 rfl Try.sizeRel (.bool false) rfl) rfl (RwPost.no HNP.out ⟨rfl, HBB.out⟩)
  case pos =>
    have HC2 := Lib.hid (HC.out.mono (fun e w' h => h.1 hin))
    have h7 := hin.1.1.2
    have h77 := hin.1.2.1.2
    obtain ⟨x, hx⟩ : ∃ x : Ix (g.n * g.len 0), (x.1 : Int) = i := ⟨⟨i.toNat, by have := hin.2; omega⟩, by have := hin.2; show ((i.toNat : Nat) : Int) = i; omega⟩
    have HPK := Lib.hid (G.pkB_yes (i := x) hin.1)
    rw [hx] at HPK
    have HX := Lib.hid hx
    clear hin HC hx
    obtain ⟨q, eq⟩ : ∃ q, pkQ g.n (g.len 0) g.flat x = q := ⟨_, rfl⟩
    have EQ := Lib.hid eq
    rw [eq] at HPK
    clear eq
    go_enter Try.func53, Try.ntmps53
    go_wp2_with fail
    refine HC2.out.mono ?_
    rintro e w1 ⟨n, gg, cap, rfl, hrv, hge, hb1⟩
    have hs1 := hb1.size
    rw [HSZ.out] at hs1
    have hR := (hb1.block w.heap.size (by rw [HSZ.out]; omega)).trans HZ.out
    have hB1 := HB0.out.trans (hb1.mono (by rw [HSZ.out]; omega))
    have hgl := hrv.lt
    have HLOC := Lib.hid (heap_alloc_new w1 (.cells #[.int .i64 g.n, .int .i64 (g.len 0), .slice (some ⟨gg, 0, none⟩) n cap] 50))
    have HR := Lib.hid ((Below.heap_alloc w1 (.cells #[.int .i64 g.n, .int .i64 (g.len 0), .slice (some ⟨gg, 0, none⟩) n cap] 50) w.heap.size (by omega)).trans hR)
    have HRV := Lib.hid (hrv.keep ((Below.refl w1.heap.size w1).alloc (Nat.le_refl _) (.cells #[.int .i64 g.n, .int .i64 (g.len 0), .slice (some ⟨gg, 0, none⟩) n cap] 50)) (Nat.le_refl _))
    have HB1 := Lib.hid (hB1.alloc (by omega) (.cells #[.int .i64 g.n, .int .i64 (g.len 0), .slice (some ⟨gg, 0, none⟩) n cap] 50))
    have hs2 : w1.heap.size + 1 ≤ (w1.alloc (.cells #[.int .i64 g.n, .int .i64 (g.len 0), .slice (some ⟨gg, 0, none⟩) n cap] 50)).heap.size := by simp
    have HIP := Lib.hid (isPeak_any g.n (g.len 0) gg cap n h7 h77 g.flat x (w1.alloc (.cells #[.int .i64 g.n, .int .i64 (g.len 0), .slice (some ⟨gg, 0, none⟩) n cap] 50)) HRV.out)
    rw [EQ.out, HX.out] at HIP
    rw [HSZ.out] at hge
    have hgz : gg ≠ w.heap.size := by omega
    clear hrv hb1 hR hB1
    obtain ⟨d0, d1, d2, _, _, _⟩ := cells3 HLOC.out
    cases q
    case false =>
      go_wp2_with fail
      refine HIP.out.mono ?_
      rintro e w2 ⟨rfl, hb2⟩
      have hR2 := (hb2.block w.heap.size (by omega)).trans HR.out
      obtain ⟨r0, r1, r2, f0, f1, f2⟩ := cells3 hR2
      have HE := Lib.hid (three_set _ w.heap.size _ _ _ (.int .i64 0) (.int .i64 0) (.slice none 0 0) hR2)
      have HBB := Lib.hid (below3 (HB1.out.trans (hb2.mono (by omega))) (Nat.le_refl w.heap.size) (.int .i64 0) (.int .i64 0) (.slice none 0 0))
      clear hb2 hR2 d0 d1 d2
      go_wp2
      exact bodyPost_ret (results_cell_row_tmp rfl _ _ w.heap.size _ #[.int .i64 0, .int .i64 0, .slice none 0 0] _ _ rfl HE.out Try.underlying50 rfl Try.sizeRel (.bool false) rfl) rfl (RwPost.no (by rw [HPK.out]; simp) ⟨rfl, HBB.out⟩)
    case true =>
      go_wp2_with fail
      refine HIP.out.mono ?_
      rintro e w2 ⟨rfl, hb2⟩
      have hR2 := (hb2.block w.heap.size (by omega)).trans HR.out
      obtain ⟨k0, k1, k2, _, _, _⟩ := cells3 ((hb2.block w1.heap.size (by omega)).trans HLOC.out)
      obtain ⟨r0, r1, r2, f0, f1, f2⟩ := cells3 hR2
      have HE := Lib.hid (three_set _ w.heap.size _ _ _ (.int .i64 g.n) (.int .i64 (g.len 0)) (.slice (some ⟨gg, 0, none⟩) n cap) hR2)
      have HBB := Lib.hid (below3 (HB1.out.trans (hb2.mono (by omega))) (Nat.le_refl w.heap.size) (.int .i64 g.n) (.int .i64 (g.len 0)) (.slice (some ⟨gg, 0, none⟩) n cap))
      have HRV2 := Lib.hid (rv_set3 (HRV.out.keep hb2 (Nat.le_refl _)) hgz (.int .i64 g.n) (.int .i64 (g.len 0)) (.slice (some ⟨gg, 0, none⟩) n cap))
      clear hb2 hR2 d0 d1 d2
      go_wp2
      exact bodyPost_ret (results_cell_row_tmp rfl _ _ w.heap.size _ #[.int .i64 g.n, .int .i64 (g.len 0), .slice (some ⟨gg, 0, none⟩) n cap] _ _ rfl HE.out Try.underlying50 rfl Try.sizeRel (.bool true) rfl) rfl (RwPost.yes HPK.out ⟨n, gg, cap, rfl, HRV2.out, by omega, HBB.out⟩)

set_option maxHeartbeats 1000000 in
set_option maxRecDepth 100000 in
theorem implPeakIs_any (v : Value) (lo hi : Nat) (g : G) (i : Int) (w : World) (hv : RdM lo hi w v g) (hh : hi ≤ w.heap.size) :
    Calls Try.prog 13 #[v, .int .i64 i] w (BlPost (g.pkB i) w) := by
  have HC := Lib.hid (reliefOfPeak_any v lo hi g i w hv hh)
  clear hv
  by_cases h : g.pkB i = true
  · have HC2 := Lib.hid (HC.out.mono (fun e w' k => k.1 h))
    have HH := Lib.hid h
    clear HC h
    go_enter Try.func13, Try.ntmps13
    go_wp2_with fail
    refine HC2.out.mono ?_
    rintro e w1 ⟨n, gg, cap, rfl, _, _, hb1⟩
    have HB1 := Lib.hid (hb1.alloc hb1.size (.cells #[.int .i64 g.n, .int .i64 (g.len 0), .slice (some ⟨gg, 0, none⟩) n cap] 50))
    clear hb1
    go_wp2
    go_ret
    exact ⟨by rw [HH.out]; rfl, HB1.out⟩
  · have HC2 := Lib.hid (HC.out.mono (fun e w' k => k.2 h))
    have HH := Lib.hid (show g.pkB i = false by simpa using h)
    clear HC h
    go_enter Try.func13, Try.ntmps13
    go_wp2_with fail
    refine HC2.out.mono ?_
    rintro e w1 ⟨rfl, hb1⟩
    have HB1 := Lib.hid (hb1.alloc hb1.size (.cells #[.int .i64 0, .int .i64 0, .slice none 0 0] 50))
    clear hb1
    go_wp2
    go_ret
    exact ⟨by rw [HH.out]; rfl, HB1.out⟩

end Go.Proofs.Ytcfeckpbjdipeaa

/- Peaks of the model. -/
namespace Go.Proofs.Ytcfeckpbjdipeaa
open Go.RowKit
set_option linter.unusedVariables false

set_option maxHeartbeats 1000000 in
set_option maxRecDepth 20000 in
theorem l4Higher_any (v : Value) (lo hi : Nat) (g : G) (a b : Nat) (w : World) (hv : RdM lo hi w v g) (h : g.Valid) (ha : a < g.n * g.len 0) (hb : b < g.n * g.len 0) :
    Calls Try.prog 66 #[v, .int .i64 a, .int .i64 b] w (EqPost (hiB g.flat a b) w) := by
  have HA := Lib.hid (fun n => l2Height_any v lo hi g a (w.drewN n) (hv.same (fun _ _ _ => rfl)) h ha)
  have HB := Lib.hid (fun n => l2Height_any v lo hi g b (w.drewN n) (hv.same (fun _ _ _ => rfl)) h hb)
  clear hv h ha hb
  by_cases h1 : g.flat b < g.flat a
  · have HE := Lib.hid (hiB_gt h1)
    have hd : decide (g.flat b < g.flat a) = true := by simp [h1]
    clear h1
    go_enter Try.func66, Try.ntmps66
    go_wp2_with fail
    refine (HA.out 0).mono ?_
    rintro e w1 ⟨rfl, n1, rfl⟩
    go_wp2_with fail
    refine (HB.out _).mono ?_
    rintro e w1 ⟨rfl, n2, rfl⟩
    go_wp2
    go_ret
    exact ⟨by rw [HE.out] <;> rfl, _, rfl⟩
  · have hd : decide (g.flat b < g.flat a) = false := by simp; omega
    by_cases h2 : g.flat a = g.flat b
    · have HE := Lib.hid (hiB_eq h2)
      have hd2 : (g.flat a == g.flat b) = true := by simp [h2]
      clear h1 h2
      go_enter Try.func66, Try.ntmps66
      go_wp2_with fail
      refine (HA.out 0).mono ?_
      rintro e w1 ⟨rfl, n1, rfl⟩
      go_wp2_with fail
      refine (HB.out _).mono ?_
      rintro e w1 ⟨rfl, n2, rfl⟩
      go_wp2_with fail
      refine (HA.out _).mono ?_
      rintro e w1 ⟨rfl, n3, rfl⟩
      go_wp2_with fail
      refine (HB.out _).mono ?_
      rintro e w1 ⟨rfl, n4, rfl⟩
      go_wp2
      go_ret
      exact ⟨by rw [HE.out]; simp, _, rfl⟩
    · have HE := Lib.hid (hiB_lt (Z := g.flat) (a := a) (b := b) (by omega))
      have hd2 : (g.flat a == g.flat b) = false := by simp [h2]
      clear h1 h2
      go_enter Try.func66, Try.ntmps66
      go_wp2_with fail
      refine (HA.out 0).mono ?_
      rintro e w1 ⟨rfl, n1, rfl⟩
      go_wp2_with fail
      refine (HB.out _).mono ?_
      rintro e w1 ⟨rfl, n2, rfl⟩
      go_wp2_with fail
      refine (HA.out _).mono ?_
      rintro e w1 ⟨rfl, n3, rfl⟩
      go_wp2_with fail
      refine (HB.out _).mono ?_
      rintro e w1 ⟨rfl, n4, rfl⟩
      go_wp2
      go_ret
      exact ⟨by rw [HE.out] <;> rfl, _, rfl⟩

set_option maxHeartbeats 2000000 in
set_option maxRecDepth 100000 in
theorem l4Peak_any (v : Value) (lo hi : Nat) (g : G) (R C : Nat) (eR : g.n = R) (eC : g.len 0 = C) (i : Ix (R * C)) (w : World) (hv : RdM lo hi w v g) (hh : hi ≤ w.heap.size) (h : g.Valid) :
    Calls Try.prog 55 #[v, .int .i64 i.1] w (BlPost (pkQ R C g.flat i) w) := by
  have HN := Lib.hid (l2Near_any v lo hi g R C eR eC i w hv hh h)
  have hRC : R * C = g.n * g.len 0 := by rw [eR, eC]
  have HH := Lib.hid (fun (W : World) (hW : RdM lo hi W v g) (z : Ix (R * C)) => l4Higher_any v lo hi g z.1 i.1 W hW h (by have := z.2; omega) (by have := i.2; omega))
  have HV := Lib.hid hv
  have h49 := mul_le_49 (R := R) (C := C) (by have := h.1.2; omega) (by have := h.2.1.2; omega)
  obtain ⟨b0, off0, cap0, rfl⟩ := hv.shapeW h.1.1
  clear eR eC hv h hRC
  go_enter Try.func55, Try.ntmps55
  go_wp2_with fail
  refine HN.out.mono ?_
  rintro e w1 ⟨r, rfl, ⟨a, c, rfl⟩, hr, hb⟩
  have HV1 := Lib.hid (HV.out.same (SameIn.below hb hh))
  have HB := Lib.hid hb
  obtain ⟨l, el⟩ : ∃ l, near R C i 4 = l := ⟨_, rfl⟩
  have HX := Lib.hid (show pkQ R C g.flat i = pkL g.flat i.1 l by rw [← el]; rfl)
  have hl4 : l.length ≤ 4 := by rw [← el]; exact near_len R C i 4
  rw [el] at hr ⊢
  clear hb el
  have HRI := Lib.hid hr
  clear hr
  go_wp2
  go_loopw [6] (fun s wr => ∃ k m : Nat, k ≤ l.length ∧ s = .int .i64 k ∧ pkL g.flat i.1 (l.take k) = true ∧ wr = w1.drewN m) (fun s _ => l.length - (intOf s).toNat)
  case atStart => exact ⟨0, 0, Nat.zero_le _, rfl, rfl, rfl⟩
  case round =>
    obtain ⟨k, m, hk, rfl, hpk, rfl⟩ := hrel
    have HPK := Lib.hid hpk
    clear hpk
    by_cases hlt : k < l.length
    · have hlt' : (k : Int) < l.length := by omega
      obtain ⟨ao, cp, b, off, e1, i2, i3, i4, i5, i6⟩ := HRI.out
      have q1 := i6 k hlt
      rw [ixZ_at l hlt] at q1
      simp only [Value.slice.injEq] at e1
      obtain ⟨rfl, _, rfl⟩ := e1
      obtain ⟨rfl, _, _⟩ := i5 (by omega)
      have HS := Lib.hid (show l.take (k + 1) = l.take k ++ [l[k]] from List.take_succ_eq_append_getElem hlt)
      have HM := Lib.hid (List.getElem_mem hlt)
      obtain ⟨z, ez⟩ : ∃ z, l[k] = z := ⟨_, rfl⟩
      rw [ez] at HS HM
      rw [ez] at q1
      clear ez i4 i5 i6
      go_wp2_with fail
      refine (HH.out _ (HV1.out.same (w' := w1.drewN m) (fun _ _ _ => rfl)) z).mono ?_
      rintro e w2 ⟨rfl, m2, rfl⟩
      by_cases hz : hiB g.flat z.1 i.1 = true
      · rw [hz]
        have HR := Lib.hid (pkL_hit (Z := g.flat) HM.out hz)
        go_wp2
        go_ret
        exact ⟨by rw [HX.out, HR.out] <;> rfl, below_drewN HB.out (m + m2)⟩
      · have hz : hiB g.flat z.1 i.1 = false := by simpa using hz
        rw [hz]
        have HR := Lib.hid (pkL_step HPK.out hz)
        go_wp2
        go_roundw
        case rel => exact ⟨k + 1, m + m2, by omega, by go_num, by rw [HS.out]; exact HR.out, rfl⟩
        case measure => simp [intOf]; omega
    · have ek : k = l.length := by omega
      subst ek
      have HR := Lib.hid (show pkL g.flat i.1 l = true by have := HPK.out; rwa [List.take_length] at this)
      go_wp2
      go_ret
      exact ⟨by rw [HX.out, HR.out] <;> rfl, below_drewN HB.out m⟩

set_option maxHeartbeats 2000000 in
set_option maxRecDepth 100000 in
theorem specPeakIs_any (v : Value) (lo hi : Nat) (g : G) (i : Int) (w : World) (hv : RdM lo hi w v g) (hh : hi ≤ w.heap.size) :
    Calls Try.prog 14 #[v, .int .i64 i] w (BlPost (g.pkB i) w) := by
  have HAS : ∃ b, (b = true ↔ g.PkIn i) ∧ Calls Try.prog 54 #[v, .int .i64 i] w (EqPost b w) := by
    have HV := Lib.hid (specValid_any v lo hi g w hv)
    by_cases h : g.Valid
    · have HB := Lib.hid (G.vB_yes h)
      have h49 := mul_le_49 h.1.2 h.2.1.2
      have h0 : 1 ≤ g.n * g.len 0 := Nat.mul_le_mul h.1.1 h.2.1.1
      have HC := Lib.hid (fun n => l2Cells_any v lo hi g (w.drewN n) (hv.same (fun _ _ _ => rfl)) h)
      obtain ⟨N, eN⟩ : ∃ N, g.n * g.len 0 = N := ⟨_, rfl⟩
      have hP : g.PkIn i ↔ 0 ≤ i ∧ i < (N : Int) := by unfold G.PkIn; rw [eN]; exact ⟨fun x => x.2, fun x => ⟨h, x⟩⟩
      rw [eN] at h49 h0 HC
      have HP := Lib.hid hP
      clear hP eN hv
      by_cases hi : 0 ≤ i ∧ i < (N : Int)
      · refine ⟨true, ⟨fun _ => HP.out.2 hi, fun _ => rfl⟩, ?_⟩
        obtain ⟨hi1, hi2⟩ := hi
        clear h
        go_enter Try.func54, Try.ntmps54
        go_wp2_with fail
        refine HV.out.mono ?_
        rintro e w1 ⟨rfl, n1, rfl⟩
        rw [HB.out]
        go_wp2_with fail
        refine (HC.out n1).mono ?_
        rintro e w1 ⟨rfl, rfl⟩
        go_wp2_with fail
        refine (l6In_yes _ _ _ _ hi1 (by omega)).mono ?_
        rintro e w1 ⟨rfl, rfl⟩
        go_wp2
        go_ret
        exact ⟨rfl, _, rfl⟩
      · refine ⟨false, ⟨fun e => (by cases e), fun e => absurd (HP.out.1 e) hi⟩, ?_⟩
        have hi3 : i < 0 ∨ (N : Int) - 1 < i := by omega
        have HI := Lib.hid hi3
        clear h hi hi3
        go_enter Try.func54, Try.ntmps54
        go_wp2_with fail
        refine HV.out.mono ?_
        rintro e w1 ⟨rfl, n1, rfl⟩
        rw [HB.out]
        go_wp2_with fail
        refine (HC.out n1).mono ?_
        rintro e w1 ⟨rfl, rfl⟩
        go_wp2_with fail
        refine (l6In_no _ _ _ _ HI.out).mono ?_
        rintro e w1 ⟨rfl, rfl⟩
        go_wp2
        go_ret
        exact ⟨rfl, _, rfl⟩
    · have HB := Lib.hid (G.vB_no h)
      refine ⟨false, ⟨fun e => (by cases e), fun e => absurd e.1 h⟩, ?_⟩
      clear h hv
      go_enter Try.func54, Try.ntmps54
      go_wp2_with fail
      refine HV.out.mono ?_
      rintro e w1 ⟨rfl, n1, rfl⟩
      rw [HB.out]
      go_wp2
      go_ret
      exact ⟨rfl, _, rfl⟩
  obtain ⟨b, hb, hcall⟩ := HAS
  have HCALL := Lib.hid hcall
  by_cases h : g.PkIn i
  · obtain rfl : b = true := hb.2 h
    obtain ⟨x, hx⟩ : ∃ x : Ix (g.n * g.len 0), (x.1 : Int) = i := ⟨⟨i.toNat, by have := h.2; omega⟩, by have := h.2; show ((i.toNat : Nat) : Int) = i; omega⟩
    subst hx
    have HX := Lib.hid (G.pkB_yes (i := x) h.1)
    have HP := Lib.hid (fun n => l4Peak_any v lo hi g _ _ rfl rfl x (w.drewN n) (hv.same (fun _ _ _ => rfl)) hh h.1)
    clear hcall hb h hv
    obtain ⟨q, eq⟩ : ∃ q, pkQ g.n (g.len 0) g.flat x = q := ⟨_, rfl⟩
    rw [eq] at HX HP
    clear eq
    go_enter Try.func14, Try.ntmps14
    go_wp2_with fail
    refine HCALL.out.mono ?_
    rintro e w1 ⟨rfl, n1, rfl⟩
    go_wp2_with fail
    refine (HP.out n1).mono ?_
    rintro e w2 ⟨rfl, hb2⟩
    have HB2 := Lib.hid ((below_drewN (Below.refl w.heap.size w) n1).trans hb2)
    clear hb2
    go_wp2
    go_ret
    exact ⟨by rw [HX.out] <;> rfl, HB2.out⟩
  · obtain rfl : b = false := by
      cases b
      · rfl
      · exact absurd (hb.1 rfl) h
    have HX := Lib.hid (G.pkB_no h)
    clear hcall hb h hv
    go_enter Try.func14, Try.ntmps14
    go_wp2_with fail
    refine HCALL.out.mono ?_
    rintro e w1 ⟨rfl, n1, rfl⟩
    go_wp2
    go_ret
    exact ⟨by rw [HX.out] <;> rfl, below_drewN (Below.refl w.heap.size w) n1⟩

end Go.Proofs.Ytcfeckpbjdipeaa

/- The list of the peaks in the model. -/
namespace Go.Proofs.Ytcfeckpbjdipeaa
open Go.RowKit
set_option linter.unusedVariables false

theorem Lists.cellAt {B : Nat} {w : World} {M : Nat} {l : List (Ix M)} {b n c q : Nat} (h : Lists B w (.slice (some ⟨b, 0, none⟩) n c) l) (hq : q < l.length) : w.cell? ⟨b, q, none⟩ = some (.int .i64 (l[q]).1) := by
  obtain ⟨hlen, ⟨e, h0⟩ | ⟨b', cap, cur, e, hB, hb, hc, hcap, hcs, ht⟩⟩ := h
  · cases e
  · simp only [Value.slice.injEq, Option.some.injEq, Addr.mk.injEq, and_true] at e
    obtain ⟨rfl, rfl, rfl⟩ := e
    have e1 : cur.toList[q]? = (ixV l)[q]? := by rw [← ht, List.getElem?_take_of_lt (by omega)]
    have e2 : cur[q]? = some (.int .i64 (l[q]).1) := by rw [← Array.getElem?_toList, e1]; simp [ixV, hq]
    simp [World.cell?, hb, e2]
/-- a list that is not nil -/
theorem Lists.shapeS {B : Nat} {w : World} {M : Nat} {l : List (Ix M)} {v : Value} (h : Lists B w v l) (hv : v ≠ .slice none 0 0) : ∃ b c, v = .slice (some ⟨b, 0, none⟩) l.length c ∧ B ≤ b ∧ b < w.heap.size ∧ l.length ≤ c ∧ c ≤ 9223372036854775807 := by
  obtain ⟨hlen, ⟨e, h0⟩ | ⟨b', cap, cur, e, hB, hb, hc, hcap, hcs, ht⟩⟩ := h
  · exact absurd e hv
  · exact ⟨b', cap, e, hB, lt_of_block hb, hc, by unfold maxLen at hcap; omega⟩
theorem ixV_len {M : Nat} (l : List (Ix M)) : (ixV l).length = l.length := by simp [ixV]
/-- the cells of a part of a list -/
theorem Lists.part {B : Nat} {w : World} {M : Nat} {l m : List (Ix M)} {b n c off : Nat} (h : Lists B w (.slice (some ⟨b, 0, none⟩) n c) l) (hm : ∀ j (hj : j < m.length), ∃ hq : off + j < l.length, m[j] = l[off + j]) :
    ∀ j u, (ixV m)[j]? = some u → w.cell? ((⟨b, off, none⟩ : Addr).add j) = some u := fun j u hu => by
  have hj : j < m.length := by
    rcases Nat.lt_or_ge j m.length with h | h
    · exact h
    · rw [List.getElem?_eq_none (by rw [ixV_len]; omega)] at hu; cases hu
  obtain ⟨hq, e⟩ := hm j hj
  rw [add_none, h.cellAt hq]
  have : (ixV m)[j]? = some (.int .i64 (m[j]).1) := by simp [ixV, hj]
  rw [this] at hu
  cases hu
  rw [e]
theorem ixV_one {M : Nat} (l : List (Ix M)) : ∀ u ∈ ixV l, u.oneCell' = true := by
  intro u hu
  unfold ixV at hu
  rw [List.mem_map] at hu
  obtain ⟨x, _, rfl⟩ := hu
  rfl

set_option maxHeartbeats 8000000 in
set_option maxRecDepth 100000 in
theorem specPeakList_any (v : Value) (lo hi : Nat) (g : G) (w : World) (hv : RdM lo hi w v g) (hh : hi ≤ w.heap.size) :
    Calls Try.prog 75 #[v] w (LvPost g.rkV w) := by
  have hb0 := (Below.refl w.heap.size w).alloc (Nat.le_refl _) (.cells #[] 3)
  have HB0 := Lib.hid hb0
  have HL0 := Lib.hid (show Lists w.heap.size (w.alloc (.cells #[] 3)) (.slice (some ⟨w.heap.size, 0, none⟩) 0 0) ([] : List (Ix (g.n * g.len 0))) from World.ownsRow_lit w #[] 0 (Nat.le_refl _) (Nat.zero_le _) (by simp))
  have HC := Lib.hid (specValid_any v lo hi g (w.alloc (.cells #[] 3)) (hv.same (SameIn.below hb0 hh)))
  by_cases h : g.Valid
  · have HB := Lib.hid (G.vB_yes h)
    have HA := Lib.hid (G.rkV_yes h)
    obtain ⟨b0, off0, cap0, rfl⟩ := hv.shapeW h.1.1
    have HV := Lib.hid hv
    have HH := Lib.hid h
    clear hv h hb0
    go_enter Try.func75, Try.ntmps75
    go_wp2_with fail
    refine HC.out.mono ?_
    rintro e w1 ⟨rfl, n1, rfl⟩
    rw [HB.out]
    go_wp2
    have h49 := mul_le_49 HH.out.1.2 HH.out.2.1.2
    obtain ⟨i0, hi0, hz0, hz1, hz2⟩ := info_parts Try.infoI
    go_loopw [3, 4] (fun o k wr => ∃ (kk : Nat) (v : Value), kk ≤ g.n * g.len 0 ∧ k = .int .i64 kk ∧ v = o ∧ v ≠ .slice none 0 0 ∧ Lists w.heap.size wr v (rkL g.n (g.len 0) g.flat kk) ∧ Below w.heap.size w wr) (fun _ k _ => g.n * g.len 0 - (intOf k).toNat)
    case atStart => exact ⟨0, _, Nat.zero_le _, rfl, rfl, by simp, HL0.out.below (below_drewN (Below.refl _ _) _) (Nat.le_refl _), below_drewN HB0.out _⟩
    case round =>
      obtain ⟨kk, v, hk, rfl, rfl, hvn, hli, hb⟩ := hrel
      have HVR := Lib.hid (HV.out.same (SameIn.below hb hh))
      have hsz := hb.size
      have HB1 := Lib.hid hb
      have hln := rkL_len (R := g.n) (C := g.len 0) (Z := g.flat) (k := kk)
      obtain ⟨bl, cl, rfl, hbl1, hbl2, hcl1, hcl2⟩ := hli.shapeS hvn
      have HLI := Lib.hid hli
      clear hb hli hvn
      by_cases hlt : kk < g.n * g.len 0
      · obtain ⟨i, hi'⟩ : ∃ i : Ix (g.n * g.len 0), i.1 = kk := ⟨⟨kk, hlt⟩, rfl⟩
        subst hi'
        have HN := Lib.hid (l4Peak_any _ lo hi g g.n (g.len 0) rfl rfl i wr HVR.out (by omega) HH.out)
        have HHI := Lib.hid (fun (W : World) (hW : RdM lo hi W (.slice (some ⟨b0, off0, none⟩) g.n cap0) g) (z : Ix (g.n * g.len 0)) => l4Higher_any _ lo hi g z.1 i.1 W hW HH.out z.2 i.2)
        have HCE := Lib.hid (fun (W : World) (hW : RdM lo hi W (.slice (some ⟨b0, off0, none⟩) g.n cap0) g) => l2Cells_any _ lo hi g W hW HH.out)
        obtain ⟨N, eN⟩ : ∃ N, g.n * g.len 0 = N := ⟨_, rfl⟩
        rw [eN] at HCE
        have EN := Lib.hid eN
        obtain ⟨x, ex⟩ : ∃ x, i.1 = x := ⟨_, rfl⟩
        have HEX := Lib.hid ex
        have hlt' : (x : Int) < N := by omega
        have hN49 : N ≤ 49 := by omega
        have hltN : x < N := by omega
        by_cases hs : pkQ g.n (g.len 0) g.flat i = true
        · have HL := Lib.hid (rkL_yes i hs)
          rw [hs, ex] at HN
          rw [ex] at hln HLI hcl1 HHI ⊢
          obtain ⟨l, el⟩ : ∃ l, rkL g.n (g.len 0) g.flat x = l := ⟨_, rfl⟩
          rw [HEX.out, el] at HL
          rw [el] at hln HLI hcl1 ⊢
          clear eN ex hlt hs el
          go_wp2_with fail
          refine (HCE.out _ HVR.out).mono ?_
          rintro e w2 ⟨rfl, rfl⟩
          go_wp2_with fail
          refine HN.out.mono ?_
          rintro e w3 ⟨rfl, hb3⟩
          have HB3 := Lib.hid (HB1.out.trans (hb3.mono hsz))
          have HV3 := Lib.hid (HV.out.same (SameIn.below HB3.out hh))
          have HL3 := Lib.hid (HLI.out.below hb3 (Nat.le_refl _))
          have hs3 := hb3.size
          clear hb3 HLI
          go_wp2
          obtain ⟨wo, rfl⟩ : ∃ wo : World, wo = wr := ⟨_, rfl⟩
          go_loopw [5] (fun s wr => ∃ at_ m : Nat, at_ ≤ l.length ∧ s = .int .i64 at_ ∧ wr = w3.drewN m ∧ ∀ j (h : j < l.length), j < at_ → hiB g.flat (l[j]).1 x = true) (fun s _ => l.length - (intOf s).toNat)
          case atStart => exact ⟨0, 0, Nat.zero_le _, rfl, rfl, fun j h hj => by omega⟩
          case round =>
            obtain ⟨q, m, hq, rfl, rfl, hup⟩ := hrel
            have HUP := Lib.hid hup
            clear hup
            by_cases hql : q < l.length
            · have hql' : (q : Int) < l.length := by omega
              have c1 := HL3.out.cellAt hql
              have c1' : (w3.drewN m).cell? ⟨bl, q, none⟩ = some (.int .i64 (l[q]).1) := c1
              obtain ⟨z, ez⟩ : ∃ z, l[q] = z := ⟨_, rfl⟩
              have HQ := Lib.hid ez
              rw [ez] at c1'
              have HHZ := Lib.hid (HHI.out (w3.drewN m) (HV3.out.same (fun _ _ _ => rfl)) z)
              obtain ⟨t, et⟩ : ∃ t, hiB g.flat z.1 x = t := ⟨_, rfl⟩
              rw [et] at HHZ
              have ET := Lib.hid et
              clear c1 ez et
              cases t
              case true =>
                go_wp2_with fail
                refine HHZ.out.mono ?_
                rintro e w4 ⟨rfl, m2, rfl⟩
                go_wp2
                go_roundw
                case rel => exact ⟨q + 1, m + m2, by omega, by go_num, rfl, fun j h hj => by
                  by_cases e : j = q
                  · subst e; rw [HQ.out]; exact ET.out
                  · exact HUP.out j h (by omega)⟩
                case measure => simp [intOf]; omega
              case false =>
                have HI := Lib.hid (show insR g.flat i l = l.take q ++ i :: l.drop q from insR_at (by omega) (fun j h hj => by rw [HEX.out]; exact HUP.out j h hj) (fun h => by rw [HQ.out, HEX.out]; exact ET.out))
                go_wp2_with fail
                refine HHZ.out.mono ?_
                rintro e w4 ⟨rfl, m2, rfl⟩
                have HBE := Lib.hid (show Below w3.heap.size w3 ((w3.drewN m).drewN m2) from below_drewN (below_drewN (Below.refl _ _) _) _)
                have hszE : ((w3.drewN m).drewN m2).heap.size = w3.heap.size := rfl
                have HLE := Lib.hid (show Lists w.heap.size ((w3.drewN m).drewN m2) (.slice (some ⟨bl, 0, none⟩) l.length cl) l from HL3.out.below HBE.out (Nat.le_refl _))
                generalize hWE : ((w3.drewN m).drewN m2) = WE at HBE HLE hszE ⊢
                clear hWE
                have HBA := Lib.hid (HBE.out.alloc HBE.out.size (.cells #[] 3))
                have own0 : (WE.alloc (.cells #[] 3)).ownsRow w3.heap.size 3 1 (.slice (some ⟨w3.heap.size, 0, none⟩) 0 0) 0 [] := by
                  have := World.ownsRow_lit WE #[] 0 (base := WE.heap.size) (e := 3) (size := 1) (Nat.le_refl _) (Nat.zero_le _) (by simp)
                  rw [hszE] at this
                  exact this
                have hqc : (q : Int) ≤ cl := by omega
                have hqle : (q : Int) ≤ (l.length : Int) := by omega
                have hlcl : (l.length : Int) ≤ cl := by omega
                have hql0 : q ≤ l.length := by omega
                go_wp2_with (first
                  | (at_builtin; (refine wpList_append_own _ rfl _ _ 27 rfl w3.heap.size 3 i0 (.int .i64 0) 1 8 Try.underlying27 hi0 hz0 hz1 hz2 rfl (by decide) (.slice (some ⟨w3.heap.size, 0, none⟩) 0 0) 0 [] rfl own0 ⟨bl, 0, none⟩ q cl (ixV (l.take q)) rfl (by rw [ixV_len, List.length_take]; omega) ((HLE.out.below (w' := WE.alloc (.cells #[] 3)) ((Below.refl _ _).alloc (Nat.le_refl _) _) (Nat.le_refl _)).part (fun j hj => ⟨by rw [List.length_take] at hj; omega, by simp⟩)) (ixV_one _) (by unfold maxLen; omega) (by omega) (by rw [World.size_alloc]; omega) ?_; intro v5 w5 hown5 hg5 hn5; have HB5 := Lib.hid (HBA.out.grown hg5 (by simp; omega) (fun k hk => by have := (own0.lt k hk).1; omega)); have hs5 : w3.heap.size ≤ w5.heap.size := (by have := hg5.size; simp at this; omega); have hv5 : v5 ≠ .slice none 0 0 := (fun e => by have := (hn5.1 e).1; simp at this); have hown5' : w5.ownsRow w3.heap.size 3 1 v5 q (ixV (l.take q)) := (by simpa using hown5); have HV5 := Lib.hid hv5; clear hown5 hg5 hn5 own0 hv5))
                  | (at_builtin; refine wpList_append_own _ rfl _ _ 27 rfl w3.heap.size 3 i0 (.int .i64 0) 1 8 Try.underlying27 hi0 hz0 hz1 hz2 rfl (by decide) v5 q (ixV (l.take q)) rfl (hown5'.alloc _) ⟨w5.heap.size, 0, none⟩ 1 1 [.int .i64 x] rfl rfl (World.news_of_block (cs := #[.int .i64 x]) (t := 3) (fr := (0, 0)) (heap_alloc_new w5 _)) (by simp [Value.oneCell']) (by unfold maxLen; omega) (by omega) (by simp; omega) ?_; intro v6 w6 hown6 hg6 hn6; have HB6 := Lib.hid ((HB5.out.alloc HB5.out.size (.cells #[.int .i64 x] 3)).grown hg6 (by simp; omega) (fun k hk => by have := (hown5'.lt k hk).1; omega)); have hs6 : w5.heap.size ≤ w6.heap.size := (by have := hg6.size; simp at this; omega); have HV6 := Lib.hid (show v6 ≠ .slice none 0 0 from fun e => by have := (hn6.1 e).2; omega); clear hg6 hn6 hown5')
                  | (at_builtin; (refine wpList_append_own _ rfl _ _ 27 rfl w3.heap.size 3 i0 (.int .i64 0) 1 8 Try.underlying27 hi0 hz0 hz1 hz2 rfl (by decide) v6 (q + 1) (ixV (l.take q) ++ [.int .i64 x]) rfl hown6 ⟨bl, q, none⟩ (l.length - q) (cl - q) (ixV (l.drop q)) rfl (by rw [ixV_len, List.length_drop]; omega) ((HL3.out.below HB6.out (Nat.le_refl _)).part (fun j hj => ⟨by rw [List.length_drop] at hj; omega, by simp⟩)) (ixV_one _) (by unfold maxLen; omega) (by omega) (by omega) ?_; intro v7 w7 hown7 hg7 hn7)))
                have HB7 := Lib.hid (HB3.out.trans ((HB6.out.grown hg7 (by omega) (fun k hk => (hown6.lt k hk).1)).mono (by omega)))
                have hv7 : v7 ≠ .slice none 0 0 := fun e => HV6.out (hn7.1 e).1
                have HL7 := Lib.hid (show Lists w.heap.size w7 v7 (rkL g.n (g.len 0) g.flat (x + 1)) from by
                  have e1 : ixV (l.take q ++ i :: l.drop q) = ixV (l.take q) ++ [.int .i64 x] ++ ixV (l.drop q) := by simp [ixV, HEX.out]
                  have e2 : (l.take q ++ i :: l.drop q).length = q + 1 + (l.length - q) := by simp; omega
                  rw [HL.out, HI.out]
                  unfold Lists
                  rw [e1, e2]
                  exact ownsRow_base hown7 (by have := HB3.out.size; omega))
                have HV7 := Lib.hid hv7
                clear hown7 hg7 hn7 hown6 hv7
                go_wp2
                go_roundw
                case rel => exact ⟨x + 1, v7, by have := EN.out; omega, by go_num, rfl, HV7.out, HL7.out, HB7.out⟩
                case measure => have := EN.out; simp [intOf]; omega
            · have eq0 : q = l.length := by omega
              have hqge : ¬ (q : Int) < l.length := by omega
              have HI := Lib.hid (show insR g.flat i l = l.take q ++ i :: l.drop q from insR_at (by omega) (fun j h hj => by rw [HEX.out]; exact HUP.out j h hj) (fun h => absurd h hql))
              obtain ⟨o, hif⟩ : ∃ o, (if cl = q then (some ⟨bl, 0, none⟩ : Option Addr) else some ⟨bl, q, none⟩) = some ⟨bl, o, none⟩ := by
                by_cases h : cl = q
                · exact ⟨0, by rw [if_pos h]⟩
                · exact ⟨q, by rw [if_neg h]⟩
              have hdr : l.drop q = [] := List.drop_eq_nil_of_le (by omega)
              have HDR := Lib.hid hdr
              clear hql eq0 hdr
              have HBE := Lib.hid (show Below w3.heap.size w3 (w3.drewN m) from below_drewN (Below.refl _ _) _)
              have hszE : (w3.drewN m).heap.size = w3.heap.size := rfl
              have HLE := Lib.hid (show Lists w.heap.size (w3.drewN m) (.slice (some ⟨bl, 0, none⟩) l.length cl) l from HL3.out.below HBE.out (Nat.le_refl _))
              generalize hWE : (w3.drewN m) = WE at HBE HLE hszE ⊢
              clear hWE
              have HBA := Lib.hid (HBE.out.alloc HBE.out.size (.cells #[] 3))
              have own0 : (WE.alloc (.cells #[] 3)).ownsRow w3.heap.size 3 1 (.slice (some ⟨w3.heap.size, 0, none⟩) 0 0) 0 [] := by
                have := World.ownsRow_lit WE #[] 0 (base := WE.heap.size) (e := 3) (size := 1) (Nat.le_refl _) (Nat.zero_le _) (by simp)
                rw [hszE] at this
                exact this
              have hqc : (q : Int) ≤ cl := by omega
              have hqle : (q : Int) ≤ (l.length : Int) := by omega
              have hlcl : (l.length : Int) ≤ cl := by omega
              have hql0 : q ≤ l.length := by omega
              go_wp2_with (first
                | (at_builtin; (refine wpList_append_own _ rfl _ _ 27 rfl w3.heap.size 3 i0 (.int .i64 0) 1 8 Try.underlying27 hi0 hz0 hz1 hz2 rfl (by decide) (.slice (some ⟨w3.heap.size, 0, none⟩) 0 0) 0 [] rfl own0 ⟨bl, 0, none⟩ q cl (ixV (l.take q)) rfl (by rw [ixV_len, List.length_take]; omega) ((HLE.out.below (w' := WE.alloc (.cells #[] 3)) ((Below.refl _ _).alloc (Nat.le_refl _) _) (Nat.le_refl _)).part (fun j hj => ⟨by rw [List.length_take] at hj; omega, by simp⟩)) (ixV_one _) (by unfold maxLen; omega) (by omega) (by rw [World.size_alloc]; omega) ?_; intro v5 w5 hown5 hg5 hn5; have HB5 := Lib.hid (HBA.out.grown hg5 (by simp; omega) (fun k hk => by have := (own0.lt k hk).1; omega)); have hs5 : w3.heap.size ≤ w5.heap.size := (by have := hg5.size; simp at this; omega); have hv5 : v5 ≠ .slice none 0 0 := (fun e => by have := (hn5.1 e).1; simp at this); have hown5' : w5.ownsRow w3.heap.size 3 1 v5 q (ixV (l.take q)) := (by simpa using hown5); have HV5 := Lib.hid hv5; clear hown5 hg5 hn5 own0 hv5))
                | (at_builtin; refine wpList_append_own _ rfl _ _ 27 rfl w3.heap.size 3 i0 (.int .i64 0) 1 8 Try.underlying27 hi0 hz0 hz1 hz2 rfl (by decide) v5 q (ixV (l.take q)) rfl (hown5'.alloc _) ⟨w5.heap.size, 0, none⟩ 1 1 [.int .i64 x] rfl rfl (World.news_of_block (cs := #[.int .i64 x]) (t := 3) (fr := (0, 0)) (heap_alloc_new w5 _)) (by simp [Value.oneCell']) (by unfold maxLen; omega) (by omega) (by simp; omega) ?_; intro v6 w6 hown6 hg6 hn6; have HB6 := Lib.hid ((HB5.out.alloc HB5.out.size (.cells #[.int .i64 x] 3)).grown hg6 (by simp; omega) (fun k hk => by have := (hown5'.lt k hk).1; omega)); have hs6 : w5.heap.size ≤ w6.heap.size := (by have := hg6.size; simp at this; omega); have HV6 := Lib.hid (show v6 ≠ .slice none 0 0 from fun e => by have := (hn6.1 e).2; omega); clear hg6 hn6 hown5')
                | (at_builtin; (refine wpList_append_own _ rfl _ _ 27 rfl w3.heap.size 3 i0 (.int .i64 0) 1 8 Try.underlying27 hi0 hz0 hz1 hz2 rfl (by decide) v6 (q + 1) (ixV (l.take q) ++ [.int .i64 x]) rfl hown6 ⟨bl, o, none⟩ (l.length - q) (cl - q) [] rfl (by simp; omega) (fun j u hu => by simp at hu) (fun u hu => by simp at hu) (by unfold maxLen; omega) (by omega) (by omega) ?_; intro v7 w7 hown7 hg7 hn7)))
              have HB7 := Lib.hid (HB3.out.trans ((HB6.out.grown hg7 (by omega) (fun k hk => (hown6.lt k hk).1)).mono (by omega)))
              have hv7 : v7 ≠ .slice none 0 0 := fun e => HV6.out (hn7.1 e).1
              have HL7 := Lib.hid (show Lists w.heap.size w7 v7 (rkL g.n (g.len 0) g.flat (x + 1)) from by
                have e1 : ixV (l.take q ++ i :: l.drop q) = ixV (l.take q) ++ [.int .i64 x] ++ ixV (l.drop q) := by rw [HDR.out]; simp [ixV, HEX.out]
                have e2 : (l.take q ++ i :: l.drop q).length = q + 1 + (l.length - q) := by simp; omega
                rw [HL.out, HI.out]
                unfold Lists
                rw [e1, e2, HDR.out]
                exact ownsRow_base hown7 (by have := HB3.out.size; omega))
              have HV7 := Lib.hid hv7
              clear hown7 hg7 hn7 hown6 hv7
              go_wp2
              go_roundw
              case rel => exact ⟨x + 1, v7, by have := EN.out; omega, by go_num, rfl, HV7.out, HL7.out, HB7.out⟩
              case measure => have := EN.out; simp [intOf]; omega
        · have hs' : pkQ g.n (g.len 0) g.flat i = false := by simpa using hs
          have HL := Lib.hid (rkL_no i hs')
          rw [hs', ex] at HN
          rw [ex] at hln HLI hcl1 ⊢
          clear eN ex hlt hs hs'
          go_wp2_with fail
          refine (HCE.out _ HVR.out).mono ?_
          rintro e w2 ⟨rfl, rfl⟩
          go_wp2_with fail
          refine HN.out.mono ?_
          rintro e w3 ⟨rfl, hb3⟩
          have HB3 := Lib.hid (HB1.out.trans (hb3.mono hsz))
          have HL3 := Lib.hid (HLI.out.below hb3 (Nat.le_refl _))
          clear hb3
          go_wp2
          go_roundw
          case rel => exact ⟨x + 1, _, by have := EN.out; omega, by go_num, rfl, by simp, by rw [← HEX.out, HL.out, HEX.out]; exact HL3.out, HB3.out⟩
          case measure => have := EN.out; simp [intOf]; omega
      · have ek : kk = g.n * g.len 0 := by omega
        have HA2 := Lib.hid (show g.rkV = rkL g.n (g.len 0) g.flat kk by rw [HA.out, ek])
        have HCE := Lib.hid (fun (W : World) (hW : RdM lo hi W (.slice (some ⟨b0, off0, none⟩) g.n cap0) g) => l2Cells_any _ lo hi g W hW HH.out)
        obtain ⟨N, eN⟩ : ∃ N, g.n * g.len 0 = N := ⟨_, rfl⟩
        rw [eN] at HCE
        have EN := Lib.hid eN
        have hge : N ≤ kk := by omega
        have hge' : ¬ (kk : Int) < N := by omega
        clear ek eN hlt
        go_wp2_with fail
        refine (HCE.out _ HVR.out).mono ?_
        rintro e w2 ⟨rfl, rfl⟩
        go_wp2
        go_ret
        exact LvPost.mk' HA2.out HLI.out HB1.out
  · have HB := Lib.hid (G.vB_no h)
    have HA := Lib.hid (G.rkV_no h)
    clear hv h hb0
    go_enter Try.func75, Try.ntmps75
    go_wp2_with fail
    refine HC.out.mono ?_
    rintro e w1 ⟨rfl, n1, rfl⟩
    rw [HB.out]
    go_wp2
    go_ret
    exact LvPost.mk' HA.out (HL0.out.below (below_drewN (Below.refl _ _) _) (Nat.le_refl _)) (below_drewN HB0.out _)

end Go.Proofs.Ytcfeckpbjdipeaa
