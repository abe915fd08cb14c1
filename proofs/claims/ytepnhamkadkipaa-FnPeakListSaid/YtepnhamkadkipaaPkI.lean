/- Peaks of the program: cells that can be ranked, and whether a cell is a peak. -/
import Derived.Test.YtepnhamkadkipaaPkM
import Derived.Test.YtepnhamkadkipaaWNext
import Derived.Test.YtepnhamkadkipaaImplG
namespace Go.Proofs.Ytepnhamkadkipaa
open Go.RowKit Go.Shelf
set_option linter.unusedVariables false
attribute [local go_sem] Oper.semAt_some

theorem cells2 {w : World} {b : Nat} {x y : Value} {t : TypeId} (h : w.heap[b]? = some (.cells #[x, y] t (0, 0))) :
    w.cell? ⟨b, 0, none⟩ = some x ∧ w.cell? ⟨b, 1, none⟩ = some y ∧ w.frozen? ⟨b, 0, none⟩ = false ∧ w.frozen? ⟨b, 1, none⟩ = false := by
  simp [World.cell?, World.frozen?, h]
theorem two_set (w : World) (b : Nat) (x y x' y' : Value) {t : TypeId} (h : w.heap[b]? = some (.cells #[x, y] t (0, 0))) :
    ((w.setCell ⟨b, 0, none⟩ x').setCell ⟨b, 1, none⟩ y').heap[b]? = some (.cells #[x', y'] t (0, 0)) := by
  have h1 := heap_setCell_same w b 0 #[x, y] t x' h
  have h2 := heap_setCell_same _ b 1 _ t y' h1
  rw [h2]
  simp
theorem Try.sizeSpot : (Try.prog.info? 73).map (·.size) = some 2 := by kernel_rfl

set_option maxHeartbeats 1000000 in
set_option maxRecDepth 20000 in
theorem above_any (x y : Int) (a b : Nat) (w : World) :
    Calls Try.prog 79 #[.agg #[.int .i64 x, .int .i64 a], .agg #[.int .i64 y, .int .i64 b]] w (BlPost (decide (y < x ∨ (x = y ∧ a < b))) w) := by
  have HB := Lib.hid (((Below.refl w.heap.size w).alloc (Nat.le_refl _) (.cells #[.int .i64 x, .int .i64 a] 73)).alloc (by simp) (.cells #[.int .i64 y, .int .i64 b] 73))
  have h1 := (Below.heap_alloc (w.alloc (.cells #[.int .i64 x, .int .i64 a] 73)) (.cells #[.int .i64 y, .int .i64 b] 73) w.heap.size (by simp)).trans (heap_alloc_new w (.cells #[.int .i64 x, .int .i64 a] 73))
  have h2 := heap_alloc_new (w.alloc (.cells #[.int .i64 x, .int .i64 a] 73)) (.cells #[.int .i64 y, .int .i64 b] 73)
  rw [World.size_alloc] at h2
  obtain ⟨c1, c2, _, _⟩ := cells2 h1
  obtain ⟨c3, c4, _, _⟩ := cells2 h2
  clear h1 h2
  by_cases e : x = y
  · have hne : (x != y) = false := by simp [e]
    have HE := Lib.hid (show decide ((a : Int) < b) = decide (y < x ∨ (x = y ∧ a < b)) by
      by_cases h : a < b
      · rw [decide_eq_true (by omega), decide_eq_true (Or.inr ⟨e, h⟩)]
      · rw [decide_eq_false (by omega), decide_eq_false (by omega)])
    clear e
    go_enter Try.func79, Try.ntmps79
    go_wp2
    go_ret
    exact ⟨by rw [← HE.out]; simp, HB.out⟩
  · have hne : (x != y) = true := by simp [e]
    have HE := Lib.hid (show decide (y < x) = decide (y < x ∨ (x = y ∧ a < b)) by
      by_cases h : y < x
      · rw [decide_eq_true h, decide_eq_true (Or.inl h)]
      · rw [decide_eq_false h, decide_eq_false (by omega)])
    clear e
    go_enter Try.func79, Try.ntmps79
    go_wp2
    go_ret
    exact ⟨by rw [← HE.out]; rfl, HB.out⟩

/-- what spot leaves -/
def SpPost (x : Int) (a : Nat) (w : World) (e : Ending) (w' : World) : Prop := e = .returned (.agg #[.int .i64 x, .int .i64 a]) ∧ Below w.heap.size w w'

set_option maxHeartbeats 1000000 in
set_option maxRecDepth 20000 in
theorem spot_any (R C gg cap cnt : Nat) (Z : Nat → Int) (k : Nat) (w : World) (h : Rv w R C cnt gg cap Z) (hk : k < cnt) (hc : cnt ≤ 1000) :
    Calls Try.prog 76 #[.agg #[.int .i64 R, .int .i64 C, .slice (some ⟨gg, 0, none⟩) cnt cap], .int .i64 k] w (SpPost (Z k) k w) := by
  have hb := ((Below.refl w.heap.size w).alloc (Nat.le_refl _) (.cells #[.int .i64 R, .int .i64 C, .slice (some ⟨gg, 0, none⟩) cnt cap] 49)).alloc (by simp) (.cells #[.int .i64 0, .int .i64 0] 73)
  have c1 := (h.keep hb (Nat.le_refl _)).cell k hk
  have hle := h.le
  have HB := Lib.hid hb
  have hk' : (k : Int) < cnt := by omega
  have h1 := (Below.heap_alloc (w.alloc (.cells #[.int .i64 R, .int .i64 C, .slice (some ⟨gg, 0, none⟩) cnt cap] 49)) (.cells #[.int .i64 0, .int .i64 0] 73) w.heap.size (by simp)).trans (heap_alloc_new w (.cells #[.int .i64 R, .int .i64 C, .slice (some ⟨gg, 0, none⟩) cnt cap] 49))
  have h2 := heap_alloc_new (w.alloc (.cells #[.int .i64 R, .int .i64 C, .slice (some ⟨gg, 0, none⟩) cnt cap] 49)) (.cells #[.int .i64 0, .int .i64 0] 73)
  rw [World.size_alloc] at h2
  obtain ⟨_, _, d2, _, _, _⟩ := cells3 h1
  obtain ⟨e0, e1, f0, f1⟩ := cells2 h2
  obtain ⟨z, ez⟩ : ∃ z, Z k = z := ⟨_, rfl⟩
  rw [ez] at c1 ⊢
  have HE := Lib.hid (heap_alloc_new (w.alloc (.cells #[.int .i64 R, .int .i64 C, .slice (some ⟨gg, 0, none⟩) cnt cap] 49)) (.cells #[.int .i64 z, .int .i64 k] 73))
  have HB3 := Lib.hid (((Below.refl w.heap.size w).alloc (Nat.le_refl _) (.cells #[.int .i64 R, .int .i64 C, .slice (some ⟨gg, 0, none⟩) cnt cap] 49)).alloc (by simp) (.cells #[.int .i64 z, .int .i64 k] 73))
  clear h hb hk ez h1 h2
  go_enter Try.func76, Try.ntmps76
  go_wp2
  exact bodyPost_ret (results_cell_row rfl _ _ (w.heap.size + 1) _ #[.int .i64 z, .int .i64 k] _ _ rfl (by have := HE.out; rw [World.size_alloc] at this; exact this) Try.underlying73 rfl Try.sizeSpot) rfl ⟨rfl, HB3.out⟩

set_option maxHeartbeats 1000000 in
set_option maxRecDepth 20000 in
theorem hasIndex_any (R C gg cap cnt : Nat) (i : Int) (w : World) (hc : cnt ≤ 1000) :
    Calls Try.prog 64 #[.agg #[.int .i64 R, .int .i64 C, .slice (some ⟨gg, 0, none⟩) cnt cap], .int .i64 i] w (BlPost (decide (0 ≤ i ∧ i < cnt)) w) := by
  have HB := Lib.hid ((Below.refl w.heap.size w).alloc (Nat.le_refl _) (.cells #[.int .i64 R, .int .i64 C, .slice (some ⟨gg, 0, none⟩) cnt cap] 49))
  obtain ⟨_, _, d2, _, _, _⟩ := cells3 (heap_alloc_new w (.cells #[.int .i64 R, .int .i64 C, .slice (some ⟨gg, 0, none⟩) cnt cap] 49))
  by_cases h0 : 0 ≤ i
  · have hd : decide (0 ≤ i) = true := by simp [h0]
    have HE := Lib.hid (show decide (i < (cnt : Int)) = decide (0 ≤ i ∧ i < (cnt : Int)) by
      by_cases h : i < (cnt : Int)
      · rw [decide_eq_true h, decide_eq_true ⟨h0, h⟩]
      · rw [decide_eq_false h, decide_eq_false (by omega)])
    go_enter Try.func64, Try.ntmps64
    go_wp2
    go_ret
    exact ⟨by rw [← HE.out]; rfl, HB.out⟩
  · have hd : decide (0 ≤ i) = false := by simp; omega
    have HE := Lib.hid (show false = decide (0 ≤ i ∧ i < (cnt : Int)) by rw [decide_eq_false (by omega)])
    clear h0
    go_enter Try.func64, Try.ntmps64
    go_wp2
    go_ret
    exact ⟨by rw [← HE.out]; rfl, HB.out⟩

theorem five_allocs (w : World) (o1 o2 o3 o4 o5 : Obj) : let W := ((((w.alloc o1).alloc o2).alloc o3).alloc o4).alloc o5
    W.heap[w.heap.size]? = some o1 ∧ W.heap[w.heap.size + 1]? = some o2 ∧ W.heap[w.heap.size + 1 + 1]? = some o3 ∧ W.heap[w.heap.size + 1 + 1 + 1]? = some o4 ∧ W.heap[w.heap.size + 1 + 1 + 1 + 1]? = some o5 ∧ W.heap.size = w.heap.size + 5 ∧ Below w.heap.size w W := by
  intro W
  obtain ⟨k1, k2, k3, k4, ks, kb⟩ := four_allocs w o1 o2 o3 o4
  have b5 := fun k hk => Below.heap_alloc ((((w.alloc o1).alloc o2).alloc o3).alloc o4) o5 k hk
  refine ⟨(b5 _ (by omega)).trans k1, (b5 _ (by omega)).trans k2, (b5 _ (by omega)).trans k3, (b5 _ (by omega)).trans k4, ?_, ?_, kb.alloc kb.size _⟩
  · have := heap_alloc_new ((((w.alloc o1).alloc o2).alloc o3).alloc o4) o5
    rw [ks] at this
    exact this
  · show (((((w.alloc o1).alloc o2).alloc o3).alloc o4).alloc o5).heap.size = _
    rw [World.size_alloc, ks]

/-- a region of a round in which operations and callees write into new memory alone -/
theorem below_round {F : Fence} {n : Nat} {P : Program} {id : Nat} {Q : Exit → Act → World → Prop} {a : Act} {w : World} {l : List Oper} (B : Nat) (l0 : Nat) (hro : F.round = none) (hm : P.follows .mixedOrders = true) (hB : Region.lexB .any l.toArray = true) (hnd : noDefer l = true)
    (h : wpQuietIn F n P l.toArray (fun w' => Below B w w') (fun a' => ∀ w', Below B w w' → Q .normal a' w') l a) : (Code.region id l.toArray true).wpIn (F.inRound l0) n P Q a w := by
  simp only [Region.lexB, Bool.and_eq_true] at hB
  refine wpIn_region_any hm (any_round l0 hro (by simpa using hnd) _ _ _ _ (wpAnyIn_of_quiet (C := fun w' => Below B w w') (Q := fun a' => ∀ w', Below B w w' → Q .normal a' w') hro (fun _ w' hw' h => h w' hw') _ _ _ _ (below_drewN (Below.refl B w) 1) ?_))
  have := wpAnyQIn_lex (F := F) (n := n) (C := fun w' => Below B w w') (md := .any) hB.1 l 0 (Array.replicate l.toArray.size false) a (by simp) (by simpa using hB.2) h
  simpa using this

/-- a call of a round's region, by its callee's contract -/
theorem quiet_call {n : Nat} {P : Program} {a : Act} {C : World → Prop} {o : Oper} {K : Act → Prop} (f : Nat) (args : Array Value) (v : Value) (hrun : ∀ w, (execOp a.eval o).run P w = .ok (.enter f args) w)
    (hc : ∀ w, C w → Calls P f args w (fun e w'' => e = .returned v ∧ C w'')) (hk : K (a.put o.dst v)) : o.quietIn Fence.wide n P a C K :=
  ⟨v, fun w hw => by
    unfold Oper.quietAtIn
    rw [hrun w]
    exact ⟨rfl, fun h => (by cases h), callsIn_wide.2 (hc w hw)⟩, hk⟩
/-- a load of a round's region -/
theorem quiet_load {n : Nat} {P : Program} {a : Act} {C : World → Prop} {o : Oper} {K : Act → Prop} (v : Value) (hrun : ∀ w, C w → (execOp a.eval o).run P w = .ok (.value v) w) (hk : K (a.put o.dst v)) : o.quietIn Fence.wide n P a C K :=
  ⟨v, fun w hw => by
    unfold Oper.quietAtIn
    rw [hrun w hw]
    exact ⟨rfl, rfl⟩, hk⟩

theorem others_belowP {W W' : World} (h : Below W.heap.size W W') : KeepsOthers W W' := ⟨h.size, fun k o ho _ => (h.block k (Array.getElem?_eq_some_iff.1 ho).1).trans ho⟩
theorem keep_blk {β : Type} {B b : Nat} {o : Obj} (hb : b < B) : OwnFrom B (fun (_ : β) W => W.heap[b]? = some o) := fun s X Y row hs hg hrow =>
  (hg.block b (Array.getElem?_eq_some_iff.1 hs).1 (fun e => by have := (hrow b e.symm).1; omega)).trans hs

theorem load_row {P : Program} {a : Act} {o : Oper} (ty : TypeId) (x : Operand) (ho : o.op = .load ty x) {b : Nat} {w : World} (hx : a.eval x = .pointer (some ⟨b, 0, none⟩)) (t : TypeId) (cs : Array Value) (fr : Nat × Nat) (d : TypeDesc)
    (hg : w.heap[b]? = some (.cells cs t fr)) (hu : P.underlying ty = some d) (hd : (match d with | .struct _ | .array _ _ => true | _ => false) = true) (hi : (P.info? ty).map (·.size) = some cs.size) :
    (execOp a.eval o).run P w = .ok (.value (.agg cs)) w := by
  unfold execOp
  simp only [ho, hx, Instr.loadAt, Instr.sureAddr, Sem.run_bind, Sem.run_pure, Result.andThen_ok, run_loadVar_row w b t ty cs fr d hg hu hd hi]

set_option maxRecDepth 100000 in
set_option maxHeartbeats 4000000 in
theorem isPeak_any (R C gg cap cnt : Nat) (hR : R ≤ 7) (hC : C ≤ 7) (Z : Nat → Int) (i : Ix (R * C)) (w : World) (h : Rv w R C cnt gg cap Z) :
    Calls Try.prog 74 #[.agg #[.int .i64 R, .int .i64 C, .slice (some ⟨gg, 0, none⟩) cnt cap], .int .i64 i.1] w (BlPost (pkQ R C Z i) w) := by
  have H := Lib.hid h
  have h49 := mul_le_49 hR hC
  clear h
  refine (callsIn_wide (n := 5)).1 ?_
  refine callsIn_of_wp_marks Try.func74 rfl trivial ?_ rfl
  simp only [Try.ntmps74, List.size_toArray, List.length_cons, List.length_nil, Nat.reduceAdd, Nat.reduceSub, Array.replicate_succ, Array.replicate_zero, List.push_toArray, List.append_toArray, List.nil_append, List.cons_append]
  gi_wp2_with (refine ⟨trivial, ?_⟩; gi_at_call 88; refine (callsIn_wide.2 (nb_any R C gg cnt cap i.1 _)).mono ?_; rintro e w' ⟨rfl, rfl⟩)
  obtain ⟨k1, k2, k3, k4, k5, ksz, kb⟩ := five_allocs w (.cells #[.int .i64 R, .int .i64 C, .slice (some ⟨gg, 0, none⟩) cnt cap] 49) (.cells #[.int .i64 i.1] 3) (.cells #[.bool false] 4) (.cells #[.int .i64 R, .int .i64 C, .slice (some ⟨gg, 0, none⟩) cnt cap] 49) (.cells #[.int .i64 i.1] 3)
  generalize hW0 : ((((w.alloc (.cells #[.int .i64 R, .int .i64 C, .slice (some ⟨gg, 0, none⟩) cnt cap] 49)).alloc (.cells #[.int .i64 i.1] 3)).alloc (.cells #[.bool false] 4)).alloc (.cells #[.int .i64 R, .int .i64 C, .slice (some ⟨gg, 0, none⟩) cnt cap] 49)).alloc (.cells #[.int .i64 i.1] 3) = W0 at k1 k2 k3 k4 k5 ksz kb ⊢
  clear hW0
  have hle : cnt ≤ cap := H.out.le
  have HCN := Lib.hid H.out.n_eq
  have hgl : gg < w.heap.size := H.out.lt
  have hMC := three_cells k4
  refine wpIn_rangeFunc_ownF rfl (by omega) (gf := 97) (lb := #[.pointer (some ⟨w.heap.size + 1 + 1 + 1 + 1, 0, none⟩), .pointer (some ⟨w.heap.size + 1 + 1 + 1, 0, none⟩)]) rfl trivial (enters_of Try.func97 (by kernel_rfl) rfl)
    (nb_stops 4 (by omega) (w.heap.size + 1 + 1 + 1 + 1) (w.heap.size + 1 + 1 + 1) R C gg cap cnt hR hC i W0 (by omega) (by omega) (one_cell k5) hMC) Kb.trans (kb_b (by omega)) (Below.refl _ _) (fun _ => rfl)
    (fun pre W => ((((pkL Z i.1 pre = true ∧ W.heap[w.heap.size]? = some (.cells #[.int .i64 R, .int .i64 C, .slice (some ⟨gg, 0, none⟩) cnt cap] 49 (0, 0))) ∧ W.heap[w.heap.size + 1]? = some (.cells #[.int .i64 i.1] 3 (0, 0))) ∧ W.heap[w.heap.size + 1 + 1]? = some (.cells #[.bool false] 4 (0, 0))) ∧ W.heap[w.heap.size + 1 + 1 + 1]? = some (.cells #[.int .i64 R, .int .i64 C, .slice (some ⟨gg, 0, none⟩) cnt cap] 49 (0, 0))) ∧ Below w.heap.size w W)
    (fun c pre W => ((c = .ret ∧ pkL Z i.1 pre = false) ∧ W.heap[w.heap.size + 1 + 1]? = some (.cells #[.bool false] 4 (0, 0))) ∧ Below w.heap.size w W)
    (OwnFrom.and (OwnFrom.and (OwnFrom.and (OwnFrom.and (OwnFrom.and (fun _ _ _ _ hs _ _ => hs) (keep_blk (by omega))) (keep_blk (by omega))) (keep_blk (by omega))) (keep_blk (by omega))) (ownFrom_below (Nat.le_refl _) (by omega)))
    (fun c => OwnFrom.and (OwnFrom.and (fun _ _ _ _ hs _ _ => hs) (keep_blk (by omega))) (ownFrom_below (Nat.le_refl _) (by omega)))
    ⟨⟨⟨⟨⟨rfl, k1⟩, k2⟩, k3⟩, k4⟩, kb⟩
    (fun x => { tmps := #[.agg #[.int .i64 R, .int .i64 C, .slice (some ⟨gg, 0, none⟩) cnt cap], .int .i64 i.1, .pointer (some ⟨w.heap.size, 0, none⟩), .pointer (some ⟨w.heap.size + 1, 0, none⟩), .pointer (some ⟨w.heap.size + 1 + 1, 0, none⟩), .int .i64 x.1, .agg #[.int .i64 R, .int .i64 C, .slice (some ⟨gg, 0, none⟩) cnt cap], .int .i64 i.1, .func (.func 97) #[] #[.pointer (some ⟨w.heap.size + 1 + 1 + 1 + 1, 0, none⟩), .pointer (some ⟨w.heap.size + 1 + 1 + 1, 0, none⟩)], .int .i64 x.1, undef, undef, undef, undef, undef, undef, undef], defers := [] }) ?assign ?body ?done ?stop
  case assign =>
    intro l x W K hK
    gi_wp2
    exact hK
  case body =>
    rintro l pre x W ⟨⟨⟨⟨⟨hp, m1⟩, m2⟩, m3⟩, m4⟩, hB⟩ _
    have hS4 : w.heap.size + 1 + 1 + 1 < W.heap.size := (Array.getElem?_eq_some_iff.1 m4).1
    have M4 := Lib.hid m4
    have hS : w.heap.size + 1 + 1 < W.heap.size := (Array.getElem?_eq_some_iff.1 m3).1
    have M1 := Lib.hid m1
    have M2 := Lib.hid m2
    have M3 := Lib.hid m3
    have HB := Lib.hid hB
    have HP := Lib.hid hp
    have HRV := Lib.hid (H.out.keep hB (Nat.le_refl _))
    have hcn : cnt = R * C := HCN.out
    have hxc : x.1 < cnt := by rw [hcn]; exact x.2
    have hic : i.1 < cnt := by rw [hcn]; exact i.2
    have HSX := Lib.hid (fun (U : World) (hU : Below W.heap.size W U) => spot_any R C gg cap cnt Z x.1 U (HRV.out.keep hU (Nat.le_refl _)) hxc (by omega))
    have HSI := Lib.hid (fun (U : World) (hU : Below W.heap.size W U) => spot_any R C gg cap cnt Z i.1 U (HRV.out.keep hU (Nat.le_refl _)) hic (by omega))
    have HAB := Lib.hid (fun (U : World) => above_any (Z x.1) (Z i.1) x.1 i.1 U)
    have HHI := Lib.hid (show decide (Z i.1 < Z x.1 ∨ (Z x.1 = Z i.1 ∧ x.1 < i.1)) = hiB Z x.1 i.1 from rfl)
    clear hp m1 m2 m3 m4 hB hcn
    obtain ⟨t, ht⟩ : ∃ t, hiB Z x.1 i.1 = t := ⟨_, rfl⟩
    have HAB2 := Lib.hid (fun (U : World) => show Calls Try.prog 79 #[.agg #[.int .i64 (Z x.1), .int .i64 x.1], .agg #[.int .i64 (Z i.1), .int .i64 i.1]] U (BlPost t U) from by rw [← ht]; exact HAB.out U)
    have HT := Lib.hid ht
    obtain ⟨zx, ezx⟩ : ∃ zx, Z x.1 = zx := ⟨_, rfl⟩
    obtain ⟨zi, ezi⟩ : ∃ zi, Z i.1 = zi := ⟨_, rfl⟩
    rw [ezx] at HSX HAB2
    rw [ezi] at HSI HAB2
    clear HAB HHI ht ezx ezi
    gi_wp2
    refine below_round W.heap.size l rfl (by kernel_rfl) (by kernel_rfl) (by kernel_rfl) ?_
    refine BigFrame.wpQuietIn_want (fun _ _ _ _ => trivial) rfl (fun K hK => ?_)
    refine quiet_load (.agg #[.int .i64 R, .int .i64 C, .slice (some ⟨gg, 0, none⟩) cnt cap]) (fun U hU => load_row 49 (.tmp 2) rfl rfl _ _ _ _ ((hU.block _ (by omega)).trans M1.out) Try.underlying49 rfl Try.sizeRel) (hK _ ?_)
    simp only [Act.put, List.setIfInBounds_toArray, List.set_cons_zero, List.set_cons_succ]
    refine BigFrame.wpQuietIn_want (fun _ _ _ _ => trivial) rfl (fun K hK => ?_)
    refine BigFrame.quietIn_move (.tmp 5) rfl (hK _ ?_)
    simp only [Act.put, List.setIfInBounds_toArray, List.set_cons_zero, List.set_cons_succ]
    refine BigFrame.wpQuietIn_want (fun _ _ _ _ => trivial) rfl (fun K hK => ?_)
    refine quiet_call 76 #[.agg #[.int .i64 R, .int .i64 C, .slice (some ⟨gg, 0, none⟩) cnt cap], .int .i64 x.1] (.agg #[.int .i64 zx, .int .i64 x.1]) (fun U => by simp [go_sem]) (fun U hU => (HSX.out U hU).mono (by rintro e U2 ⟨rfl, hb⟩; exact ⟨rfl, hU.trans (hb.mono hU.size)⟩)) (hK _ ?_)
    simp only [Act.put, List.setIfInBounds_toArray, List.set_cons_zero, List.set_cons_succ]
    refine BigFrame.wpQuietIn_want (fun _ _ _ _ => trivial) rfl (fun K hK => ?_)
    refine quiet_load (.agg #[.int .i64 R, .int .i64 C, .slice (some ⟨gg, 0, none⟩) cnt cap]) (fun U hU => load_row 49 (.tmp 2) rfl rfl _ _ _ _ ((hU.block _ (by omega)).trans M1.out) Try.underlying49 rfl Try.sizeRel) (hK _ ?_)
    simp only [Act.put, List.setIfInBounds_toArray, List.set_cons_zero, List.set_cons_succ]
    refine BigFrame.wpQuietIn_want (fun _ _ _ _ => trivial) rfl (fun K hK => ?_)
    refine quiet_load (.int .i64 i.1) (fun U hU => by have hc := one_cell ((hU.block _ (by omega)).trans M2.out); simp [go_sem, hc]) (hK _ ?_)
    simp only [Act.put, List.setIfInBounds_toArray, List.set_cons_zero, List.set_cons_succ]
    refine BigFrame.wpQuietIn_want (fun _ _ _ _ => trivial) rfl (fun K hK => ?_)
    refine quiet_call 76 #[.agg #[.int .i64 R, .int .i64 C, .slice (some ⟨gg, 0, none⟩) cnt cap], .int .i64 i.1] (.agg #[.int .i64 zi, .int .i64 i.1]) (fun U => by simp [go_sem]) (fun U hU => (HSI.out U hU).mono (by rintro e U2 ⟨rfl, hb⟩; exact ⟨rfl, hU.trans (hb.mono hU.size)⟩)) (hK _ ?_)
    simp only [Act.put, List.setIfInBounds_toArray, List.set_cons_zero, List.set_cons_succ]
    refine BigFrame.wpQuietIn_want (fun _ _ _ _ => trivial) rfl (fun K hK => ?_)
    refine quiet_call 79 #[.agg #[.int .i64 zx, .int .i64 x.1], .agg #[.int .i64 zi, .int .i64 i.1]] (.bool t) (fun U => by simp [go_sem]) (fun U hU => (HAB2.out U).mono (by rintro e U2 ⟨rfl, hb⟩; exact ⟨rfl, hU.trans (hb.mono hU.size)⟩)) (hK _ ?_)
    simp only [Act.put, List.setIfInBounds_toArray, List.set_cons_zero, List.set_cons_succ]
    refine wpQuietIn_nil ?_
    intro U hU
    have HU := Lib.hid hU
    have hUs := hU.size
    have c3 := one_cell ((hU.block _ hS).trans M3.out)
    have f3 : U.frozen? ⟨w.heap.size + 1 + 1, 0, none⟩ = false := by simp [World.frozen?, (hU.block _ hS).trans M3.out]
    clear hU
    cases t
    case false =>
      gi_wp2
      exact ⟨others_belowP HU.out, Kb.of_below HU.out (by omega), ⟨⟨⟨⟨pkL_step HP.out HT.out, (HU.out.block _ (by omega)).trans M1.out⟩, (HU.out.block _ (by omega)).trans M2.out⟩, (HU.out.block _ hS).trans M3.out⟩, (HU.out.block _ hS4).trans M4.out⟩, HB.out.trans (HU.out.mono HB.out.size)⟩
    case true =>
      gi_wp2
      exact ⟨(others_belowP HU.out).trans (KeepsOthers.setCell _ _ _), ⟨⟨rfl, by rw [pkL_snoc, HT.out]; simp⟩, by simpa using heap_setCell_same U (w.heap.size + 1 + 1) 0 #[.bool false] _ (.bool false) ((HU.out.block _ hS).trans M3.out)⟩, (HB.out.trans (HU.out.mono HB.out.size)).setCell (p := ⟨w.heap.size + 1 + 1, 0, none⟩) (show w.heap.size ≤ w.heap.size + 1 + 1 by omega) _⟩
  case done =>
    rintro D ys W hD rfl ⟨⟨⟨⟨⟨hp, m1⟩, m2⟩, m3⟩, m4⟩, hB⟩ hK
    have HP := Lib.hid (show pkQ R C Z i = true from hp)
    have HB := Lib.hid hB
    have hcr := one_cell m3
    have hfr : W.frozen? ⟨w.heap.size + 1 + 1, 0, none⟩ = false := by simp [World.frozen?, m3]
    clear hp m1 m2 m4 hB
    gi_wp2
    have hK' := (KeepsOthers.setCell W ⟨w.heap.size + 1 + 1, 0, none⟩ (.bool true)).same D _ hK rfl
    refine ⟨by simp, .inl ⟨_, _, rfl, run_takeDeferred hK', ?_⟩⟩
    have hc5 := cell_kept (World.cell?_setCell_same' W ⟨w.heap.size + 1 + 1, 0, none⟩ (.bool true) (by rw [hcr]; rfl)) (grownBy_putObj' _ D (.deferred none)) (fun r e => by cases e; exact ⟨_, hK', rfl⟩)
    refine ⟨.bool true, ?_, by rw [HP.out], (HB.out.setCell (p := ⟨w.heap.size + 1 + 1, 0, none⟩) (show w.heap.size ≤ w.heap.size + 1 + 1 by omega) _).trans (belowK_b (w := w) (Nat.le_refl _) _ D _ _ (by omega) hK' rfl rfl)⟩
    simp [results, Try.f74, go_sem, hc5]
  case stop =>
    rintro D c pre W hD hpre ⟨⟨⟨rfl, hp⟩, m3⟩, hB⟩ hK
    have HP := Lib.hid (show pkQ R C Z i = false by
      unfold pkL at hp
      rw [List.all_eq_false] at hp
      obtain ⟨y, hy, h2⟩ := hp
      exact pkL_hit (hpre.subset hy) (by simpa using h2))
    have HB := Lib.hid hB
    have hcr := one_cell m3
    clear hp hB
    gi_wp2
    refine ⟨by simp, .inl ⟨_, _, rfl, run_takeDeferred hK, ?_⟩⟩
    have hc5 := cell_kept hcr (grownBy_putObj' _ D (.deferred none)) (fun r e => by cases e; exact ⟨_, hK, rfl⟩)
    refine ⟨.bool false, ?_, by rw [HP.out], HB.out.trans (belowK_b (w := w) (Nat.le_refl _) _ D _ _ (by omega) hK rfl rfl)⟩
    simp [results, Try.f74, go_sem, hc5]

end Go.Proofs.Ytepnhamkadkipaa
