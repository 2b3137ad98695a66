/-
  Layer 6, code: a reader that is not there, or that was not made.
-/
import Derived.Test.YtphmknhlibampaaDoorTbQ
import Derived.Test.YtphmknhlibampaaDoorKitW
namespace Go.Proofs.YtphmknhlibampaaDoor
open Go.RowKit
set_option linter.unusedVariables false
set_option linter.unusedSimpArgs false
set_option maxRecDepth 100000

/-- No reader. -/
def Dead (w : World) (v : Value) : Prop := v = .pointer none ∨ ∃ b, v = .pointer (some ⟨b, 0, none⟩) ∧ w.cell? ⟨b, 1, none⟩ = some (.bool false)
def DOut (z : Value) (w : World) (e : Ending) (w' : World) : Prop := e = .returned z ∧ Below w.heap.size w w'
section
variable {w w' : World} {v : Value}
theorem Dead.below (h : Dead w v) (hb : Below w.heap.size w w') : Dead w' v := by
  rcases h with h | ⟨b, h, hc⟩
  · exact .inl h
  · exact .inr ⟨b, h, (hb.cell (p := ⟨b, 1, none⟩) (World.block_lt_of_cell? w ⟨b, 1, none⟩ hc)).trans hc⟩
theorem Dead.drewN (h : Dead w v) (k : Nat) : Dead (w.drewN k) v := h
theorem is_dead (h : Dead w v) : Calls Tryd.prog 71 #[v] w fun e w' => e = .returned (.bool false) ∧ w = w' := by
  rcases h with rfl | ⟨b, rfl, hc⟩
  all_goals
    go_enter Tryd.func71, Tryd.ntmps71
    go_wp2
    go_ret
    exact ⟨rfl, rfl⟩
theorem goes_dead (h : Dead w v) : Calls Tryd.prog 69 #[v] w fun e w' => e = .returned (.bool false) ∧ w = w' := by
  have H := Lib.hid (is_dead h)
  clear h
  go_enter Tryd.func69, Tryd.ntmps69
  go_wp2_with (refine H.out.mono ?_; rintro e w' ⟨rfl, rfl⟩)
  go_ret
  exact ⟨rfl, rfl⟩
theorem Fail_dead (h : Dead w v) (e at_ : Int) : Calls Tryd.prog 32 #[v, .int .i64 e, .int .i64 at_] w (DOut (.tuple #[]) w) := by
  have H := Lib.hid (goes_dead h)
  clear h
  go_enter Tryd.func32, Tryd.ntmps32
  go_wp2_with (refine H.out.mono ?_; rintro e w' ⟨rfl, rfl⟩)
  refine bodyPost_end (v := .tuple #[]) (by simp [results, Tryd.results32, go_sem]) rfl ?_
  exact ⟨rfl, Below.refl _ _⟩
theorem At_dead (h : Dead w v) : Calls Tryd.prog 35 #[v] w (DOut (.int .i64 0) w) := by
  have H := Lib.hid (is_dead h)
  clear h
  go_enter Tryd.func35, Tryd.ntmps35
  go_wp2_with (refine H.out.mono ?_; rintro e w' ⟨rfl, rfl⟩)
  go_ret
  exact ⟨rfl, Below.refl _ _⟩
theorem Left_dead (h : Dead w v) : Calls Tryd.prog 36 #[v] w (DOut (.int .i64 0) w) := by
  have H := Lib.hid (is_dead h)
  clear h
  go_enter Tryd.func36, Tryd.ntmps36
  go_wp2_with (refine H.out.mono ?_; rintro e w' ⟨rfl, rfl⟩)
  go_ret
  exact ⟨rfl, Below.refl _ _⟩
theorem Err_dead (h : Dead w v) : Calls Tryd.prog 34 #[v] w (DOut (.tuple #[.int .i64 1, .int .i64 0]) w) := by
  have H := Lib.hid (is_dead h)
  clear h
  go_enter Tryd.func34, Tryd.ntmps34
  go_wp2_with (refine H.out.mono ?_; rintro e w' ⟨rfl, rfl⟩)
  go_ret2
  exact ⟨rfl, Below.refl _ _⟩
set_option maxHeartbeats 1000000 in
theorem may_dead (h : Dead w v) (x : Int) : Calls Tryd.prog 61 #[v, .int .u8 x] w (DOut (.bool false) w) := by
  have H : Hid (∀ k, Calls Tryd.prog 69 #[v] (w.drewN k) fun e w' => e = .returned (.bool false) ∧ ∃ m, w' = w.drewN m) := Lib.hid fun k => (goes_dead (h.drewN k)).mono fun _ _ ⟨he, hw⟩ => ⟨he, k, hw.symm⟩
  clear h
  go_enter Tryd.func61, Tryd.ntmps61
  go_wp2_with fail
  go_quiet ((go_at_call 69; exact H.out _))
  go_wp2
  go_ret
  exact ⟨rfl, below_drewN (Below.refl _ _) _⟩
theorem item_byte_dead (h : Dead w v) (f : Value) : Calls Tryd.prog 41 #[v, f] w (DOut (.int .u8 0) w) := by
  have H := Lib.hid (goes_dead h)
  clear h
  go_enter Tryd.func41, Tryd.ntmps41
  go_wp2_with (refine H.out.mono ?_; rintro e w' ⟨rfl, rfl⟩)
  go_ret
  exact ⟨rfl, Below.refl _ _⟩
theorem item_uint64_dead (h : Dead w v) (f : Value) : Calls Tryd.prog 43 #[v, f] w (DOut (.int .u64 0) w) := by
  have H := Lib.hid (goes_dead h)
  clear h
  go_enter Tryd.func43, Tryd.ntmps43
  go_wp2_with (refine H.out.mono ?_; rintro e w' ⟨rfl, rfl⟩)
  go_ret
  exact ⟨rfl, Below.refl _ _⟩
theorem item_int64_dead (h : Dead w v) (f : Value) : Calls Tryd.prog 47 #[v, f] w (DOut (.int .i64 0) w) := by
  have H := Lib.hid (goes_dead h)
  clear h
  go_enter Tryd.func47, Tryd.ntmps47
  go_wp2_with (refine H.out.mono ?_; rintro e w' ⟨rfl, rfl⟩)
  go_ret
  exact ⟨rfl, Below.refl _ _⟩
theorem item_string_dead (h : Dead w v) (f : Value) : Calls Tryd.prog 51 #[v, f] w (DOut (.string ⟨#[]⟩) w) := by
  have H := Lib.hid (goes_dead h)
  clear h
  go_enter Tryd.func51, Tryd.ntmps51
  go_wp2_with (refine H.out.mono ?_; rintro e w' ⟨rfl, rfl⟩)
  go_ret
  exact ⟨rfl, Below.refl _ _⟩
theorem item_int_dead (h : Dead w v) (f : Value) : Calls Tryd.prog 54 #[v, f] w (DOut (.int .i64 0) w) := by
  have H := Lib.hid (goes_dead h)
  clear h
  go_enter Tryd.func54, Tryd.ntmps54
  go_wp2_with (refine H.out.mono ?_; rintro e w' ⟨rfl, rfl⟩)
  go_ret
  exact ⟨rfl, Below.refl _ _⟩
theorem item_bytes_dead (h : Dead w v) (f : Value) : Calls Tryd.prog 56 #[v, f] w (DOut (.slice none 0 0) w) := by
  have H := Lib.hid (goes_dead h)
  clear h
  go_enter Tryd.func56, Tryd.ntmps56
  go_wp2_with (refine H.out.mono ?_; rintro e w' ⟨rfl, rfl⟩)
  go_ret
  exact ⟨rfl, Below.refl _ _⟩
set_option maxHeartbeats 2000000 in
theorem item_Heap_dead (h : Dead w v) (f : Value) : Calls Tryd.prog 58 #[v, f] w (DOut (.agg #[.int .i64 0, .int .i64 0]) w) := by
  obtain ⟨W0, hW0⟩ : ∃ W0, W0 = (w.alloc (.cells #[.int .i64 0, .int .i64 0] 42)).alloc (.cells #[.int .i64 0, .int .i64 0] 42) := ⟨_, rfl⟩
  have hB0 : Below w.heap.size w W0 := by rw [hW0]; exact ((Below.refl _ _).alloc (Nat.le_refl _) _).alloc (by simp) _
  have R0 : Hid (W0.heap[w.heap.size]? = some (.cells #[.int .i64 0, .int .i64 0] 42 (0, 0))) := Lib.hid (by rw [hW0]; exact heap_alloc2_old _ _ _)
  have R1 : Hid (W0.heap[w.heap.size + 1]? = some (.cells #[.int .i64 0, .int .i64 0] 42 (0, 0))) := Lib.hid (by rw [hW0]; exact heap_alloc2_new _ _ _)
  have H := Lib.hid (goes_dead (h.below hB0))
  have HB := Lib.hid (below_setRow hB0 (Nat.le_refl _) #[.int .i64 0, .int .i64 0])
  have HW0 := Lib.hid hW0
  clear h hB0 hW0
  go_enter Tryd.func58, Tryd.ntmps58
  go_wp2_with fail
  rw [← HW0.out]
  go_wp2_with (first
    | (refine H.out.mono ?_; rintro e w' ⟨rfl, rfl⟩)
    | (refine wpList_load_row rfl 42 (.tmp 5) rfl (w.heap.size + 1) rfl _ _ _ _ R1.out Tryd.underlying42 rfl (by kernel_rfl) ?_)
    | (refine wpList_store_row rfl 42 (.tmp 4) (.tmp 12) rfl w.heap.size #[.int .i64 0, .int .i64 0] rfl rfl _ _ R0.out (by kernel_rfl) rfl (by simp [Value.oneCell']) ?_))
  exact bodyPost_ret (results_cell_row rfl _ _ w.heap.size _ _ (0, 0) _ rfl (setRow_heap _ _ _ _ _ _ R0.out) Tryd.underlying42 rfl (by as_aux_lemma => kernel_rfl)) rfl ⟨rfl, HB.out⟩
set_option maxHeartbeats 2000000 in
theorem item_Val_dead (h : Dead w v) (f : Value) : Calls Tryd.prog 63 #[v, f] w (DOut (.agg #[.int .i64 0, .bool false, .int .i64 0, .int .i64 0]) w) := by
  obtain ⟨W0, hW0⟩ : ∃ W0, W0 = (w.alloc (.cells #[.int .i64 0, .bool false, .int .i64 0, .int .i64 0] 46)).alloc (.cells #[.int .i64 0, .bool false, .int .i64 0, .int .i64 0] 46) := ⟨_, rfl⟩
  have hB0 : Below w.heap.size w W0 := by rw [hW0]; exact ((Below.refl _ _).alloc (Nat.le_refl _) _).alloc (by simp) _
  have R0 : Hid (W0.heap[w.heap.size]? = some (.cells #[.int .i64 0, .bool false, .int .i64 0, .int .i64 0] 46 (0, 0))) := Lib.hid (by rw [hW0]; exact heap_alloc2_old _ _ _)
  have R1 : Hid (W0.heap[w.heap.size + 1]? = some (.cells #[.int .i64 0, .bool false, .int .i64 0, .int .i64 0] 46 (0, 0))) := Lib.hid (by rw [hW0]; exact heap_alloc2_new _ _ _)
  have H := Lib.hid (goes_dead (h.below hB0))
  have HB := Lib.hid (below_setRow hB0 (Nat.le_refl _) #[.int .i64 0, .bool false, .int .i64 0, .int .i64 0])
  have HW0 := Lib.hid hW0
  clear h hB0 hW0
  go_enter Tryd.func63, Tryd.ntmps63
  go_wp2_with fail
  rw [← HW0.out]
  go_wp2_with (first
    | (refine H.out.mono ?_; rintro e w' ⟨rfl, rfl⟩)
    | (refine wpList_load_row rfl 46 (.tmp 5) rfl (w.heap.size + 1) rfl _ _ _ _ R1.out Tryd.underlying46 rfl (by kernel_rfl) ?_)
    | (refine wpList_store_row rfl 46 (.tmp 4) (.tmp 12) rfl w.heap.size #[.int .i64 0, .bool false, .int .i64 0, .int .i64 0] rfl rfl _ _ R0.out (by kernel_rfl) rfl (by simp [Value.oneCell']) ?_))
  exact bodyPost_ret (results_cell_row rfl _ _ w.heap.size _ _ (0, 0) _ rfl (setRow_heap _ _ _ _ _ _ R0.out) Tryd.underlying46 rfl (by as_aux_lemma => kernel_rfl)) rfl ⟨rfl, HB.out⟩
set_option maxHeartbeats 2000000 in
theorem item_Comp_dead (h : Dead w v) (f : Value) : Calls Tryd.prog 109 #[v, f] w (DOut (.agg #[.int .i64 0, .slice none 0 0, .slice none 0 0, .slice none 0 0]) w) := by
  obtain ⟨W0, hW0⟩ : ∃ W0, W0 = (w.alloc (.cells #[.int .i64 0, .slice none 0 0, .slice none 0 0, .slice none 0 0] 68)).alloc (.cells #[.int .i64 0, .slice none 0 0, .slice none 0 0, .slice none 0 0] 68) := ⟨_, rfl⟩
  have hB0 : Below w.heap.size w W0 := by rw [hW0]; exact ((Below.refl _ _).alloc (Nat.le_refl _) _).alloc (by simp) _
  have R0 : Hid (W0.heap[w.heap.size]? = some (.cells #[.int .i64 0, .slice none 0 0, .slice none 0 0, .slice none 0 0] 68 (0, 0))) := Lib.hid (by rw [hW0]; exact heap_alloc2_old _ _ _)
  have R1 : Hid (W0.heap[w.heap.size + 1]? = some (.cells #[.int .i64 0, .slice none 0 0, .slice none 0 0, .slice none 0 0] 68 (0, 0))) := Lib.hid (by rw [hW0]; exact heap_alloc2_new _ _ _)
  have H := Lib.hid (goes_dead (h.below hB0))
  have HB := Lib.hid (below_setRow hB0 (Nat.le_refl _) #[.int .i64 0, .slice none 0 0, .slice none 0 0, .slice none 0 0])
  have HW0 := Lib.hid hW0
  clear h hB0 hW0
  go_enter Tryd.func109, Tryd.ntmps109
  go_wp2_with fail
  rw [← HW0.out]
  go_wp2_with (first
    | (refine H.out.mono ?_; rintro e w' ⟨rfl, rfl⟩)
    | (refine wpList_load_row rfl 68 (.tmp 5) rfl (w.heap.size + 1) rfl _ _ _ _ R1.out Tryd.underlying68 rfl (by kernel_rfl) ?_)
    | (refine wpList_store_row rfl 68 (.tmp 4) (.tmp 12) rfl w.heap.size #[.int .i64 0, .slice none 0 0, .slice none 0 0, .slice none 0 0] rfl rfl _ _ R0.out (by kernel_rfl) rfl (by simp [Value.oneCell']) ?_))
  exact bodyPost_ret (results_cell_row rfl _ _ w.heap.size _ _ (0, 0) _ rfl (setRow_heap _ _ _ _ _ _ R0.out) Tryd.underlying68 rfl (by as_aux_lemma => kernel_rfl)) rfl ⟨rfl, HB.out⟩
theorem Byte_dead (h : Dead w v) : Calls Tryd.prog 10 #[v] w (DOut (.int .u8 0) w) := by
  have H := Lib.hid (item_byte_dead h)
  clear h
  go_enter Tryd.func10, Tryd.ntmps10
  go_wp2_with (refine (H.out _).mono ?_; rintro e w' ⟨rfl, hb⟩)
  go_ret
  exact ⟨rfl, hb⟩
theorem Name_dead (h : Dead w v) : Calls Tryd.prog 16 #[v] w (DOut (.string ⟨#[]⟩) w) := by
  have H := Lib.hid (item_string_dead h)
  clear h
  go_enter Tryd.func16, Tryd.ntmps16
  go_wp2_with (refine (H.out _).mono ?_; rintro e w' ⟨rfl, hb⟩)
  go_ret
  exact ⟨rfl, hb⟩
theorem Count_dead (h : Dead w v) : Calls Tryd.prog 18 #[v] w (DOut (.int .i64 0) w) := by
  have H := Lib.hid (item_int_dead h)
  clear h
  go_enter Tryd.func18, Tryd.ntmps18
  go_wp2_with (refine (H.out _).mono ?_; rintro e w' ⟨rfl, hb⟩)
  go_ret
  exact ⟨rfl, hb⟩
theorem U_dead (h : Dead w v) (k : Int) : Calls Tryd.prog 12 #[v, .int .i64 k] w (DOut (.int .u64 0) w) := by
  have hB0 : Below w.heap.size w (w.alloc (.cells #[.int .i64 k] 3)) := (Below.refl _ _).alloc (Nat.le_refl _) _
  have H := Lib.hid (item_uint64_dead (h.below hB0))
  have HB := Lib.hid hB0
  clear h hB0
  go_enter Tryd.func12, Tryd.ntmps12
  go_wp2_with (refine (H.out _).mono ?_; rintro e w' ⟨rfl, hb⟩)
  go_ret
  exact ⟨rfl, below_trans HB.out hb⟩
theorem S_dead (h : Dead w v) (k : Int) : Calls Tryd.prog 14 #[v, .int .i64 k] w (DOut (.int .i64 0) w) := by
  have hB0 : Below w.heap.size w (w.alloc (.cells #[.int .i64 k] 3)) := (Below.refl _ _).alloc (Nat.le_refl _) _
  have H := Lib.hid (item_int64_dead (h.below hB0))
  have HB := Lib.hid hB0
  clear h hB0
  go_enter Tryd.func14, Tryd.ntmps14
  go_wp2_with (refine (H.out _).mono ?_; rintro e w' ⟨rfl, hb⟩)
  go_ret
  exact ⟨rfl, below_trans HB.out hb⟩
theorem Take_dead (h : Dead w v) (k : Int) : Calls Tryd.prog 20 #[v, .int .i64 k] w (DOut (.slice none 0 0) w) := by
  have hB0 : Below w.heap.size w (w.alloc (.cells #[.int .i64 k] 3)) := (Below.refl _ _).alloc (Nat.le_refl _) _
  have H := Lib.hid (item_bytes_dead (h.below hB0))
  have HB := Lib.hid hB0
  clear h hB0
  go_enter Tryd.func20, Tryd.ntmps20
  go_wp2_with (refine (H.out _).mono ?_; rintro e w' ⟨rfl, hb⟩)
  go_ret
  exact ⟨rfl, below_trans HB.out hb⟩
/-- The result's block of a call on no reader. -/
theorem dead_row (h : Dead w v) (zs : Array Value) (t : TypeId) {y : World} (hb : Below (w.alloc (.cells zs t)).heap.size (w.alloc (.cells zs t)) y) : y.heap[w.heap.size]? = some (.cells zs t (0, 0)) ∧
    ∀ cs : Array Value, (y.setRow w.heap.size cs).heap[w.heap.size]? = some (.cells cs t (0, 0)) ∧ Below w.heap.size w (y.setRow w.heap.size cs) := by
  have e0 : y.heap[w.heap.size]? = some (.cells zs t (0, 0)) := (hb.block _ (by simp)).trans (World.alloc_heap_new _ _)
  exact ⟨e0, fun cs => ⟨setRow_heap _ _ _ _ _ _ e0, below_setRow (((Below.refl _ _).alloc (Nat.le_refl _) _).trans (hb.mono (by simp))) (Nat.le_refl _) _⟩⟩
set_option maxHeartbeats 4000000 in
theorem Heap_dead (h : Dead w v) : Calls Tryd.prog 22 #[v] w (DOut (.agg #[.int .i64 0, .int .i64 0]) w) := by
  obtain ⟨W0, hW0⟩ : ∃ W0, W0 = w.alloc (.cells #[.int .i64 0, .int .i64 0] 42) := ⟨_, rfl⟩
  have hB0 : Below w.heap.size w W0 := by rw [hW0]; exact (Below.refl _ _).alloc (Nat.le_refl _) _
  have h0 := h.below hB0
  have hB : Hid (Below W0.heap.size W0 W0) := Lib.hid (Below.refl _ _)
  have HD := Lib.hid h
  have HW0 := Lib.hid hW0
  have H0 : Hid (∀ y, Below W0.heap.size W0 y → Calls Tryd.prog 58 #[v, .func (.func 59) #[] #[]] y (DOut (.agg #[.int .i64 0, .int .i64 0]) y)) := Lib.hid fun y hb => (fun h => item_Heap_dead h _) (h0.below hb)
  clear h h0 hB0 hW0
  go_enter Tryd.func22, Tryd.ntmps22
  go_wp2_with fail
  rw [← HW0.out]
  go_wp2_with (first
    | (go_at_call 58; (with_reducible refine (H0.out _ hB.out).mono ?_); rintro e y0 ⟨rfl, hb⟩; have hB := Lib.hid (below_trans hB.out hb); clear hb; have F := dead_row HD.out _ _ (HW0.out ▸ hB.out); have F1 := Lib.hid F.1; have F2 := Lib.hid (F.2 #[.int .i64 0, .int .i64 0]); clear F)
    | (refine wpList_store_row rfl 42 (.tmp 2) (.tmp 4) rfl w.heap.size #[.int .i64 0, .int .i64 0] rfl rfl _ _ F1.out (by kernel_rfl) rfl (by simp [Value.oneCell']) ?_))
  exact bodyPost_ret (results_cell_row rfl _ _ w.heap.size _ _ (0, 0) _ rfl F2.out.1 Tryd.underlying42 rfl (by as_aux_lemma => kernel_rfl)) rfl ⟨rfl, F2.out.2⟩
set_option maxHeartbeats 4000000 in
theorem Val_dead (h : Dead w v) : Calls Tryd.prog 24 #[v] w (DOut (.agg #[.int .i64 0, .bool false, .int .i64 0, .int .i64 0]) w) := by
  obtain ⟨W0, hW0⟩ : ∃ W0, W0 = w.alloc (.cells #[.int .i64 0, .bool false, .int .i64 0, .int .i64 0] 46) := ⟨_, rfl⟩
  have hB0 : Below w.heap.size w W0 := by rw [hW0]; exact (Below.refl _ _).alloc (Nat.le_refl _) _
  have h0 := h.below hB0
  have hB : Hid (Below W0.heap.size W0 W0) := Lib.hid (Below.refl _ _)
  have HD := Lib.hid h
  have HW0 := Lib.hid hW0
  have H0 : Hid (∀ y, Below W0.heap.size W0 y → Calls Tryd.prog 61 #[v, .int .u8 127] y (DOut (.bool false) y)) := Lib.hid fun y hb => (fun h => may_dead h 127) (h0.below hb)
  have H1 : Hid (∀ y, Below W0.heap.size W0 y → Calls Tryd.prog 61 #[v, .int .u8 126] y (DOut (.bool false) y)) := Lib.hid fun y hb => (fun h => may_dead h 126) (h0.below hb)
  have H2 : Hid (∀ y, Below W0.heap.size W0 y → Calls Tryd.prog 61 #[v, .int .u8 99] y (DOut (.bool false) y)) := Lib.hid fun y hb => (fun h => may_dead h 99) (h0.below hb)
  have H3 : Hid (∀ y, Below W0.heap.size W0 y → Calls Tryd.prog 61 #[v, .int .u8 100] y (DOut (.bool false) y)) := Lib.hid fun y hb => (fun h => may_dead h 100) (h0.below hb)
  have H4 : Hid (∀ y, Below W0.heap.size W0 y → Calls Tryd.prog 63 #[v, .func (.func 64) #[] #[]] y (DOut (.agg #[.int .i64 0, .bool false, .int .i64 0, .int .i64 0]) y)) := Lib.hid fun y hb => (fun h => item_Val_dead h _) (h0.below hb)
  clear h h0 hB0 hW0
  go_enter Tryd.func24, Tryd.ntmps24
  go_wp2_with fail
  rw [← HW0.out]
  go_wp2_with (first
    | (go_at_call 61; (with_reducible refine (H0.out _ hB.out).mono ?_); rintro e y0 ⟨rfl, hb⟩; have hB := Lib.hid (below_trans hB.out hb); clear hb)
    | (go_at_call 61; (with_reducible refine (H1.out _ hB.out).mono ?_); rintro e y1 ⟨rfl, hb⟩; have hB := Lib.hid (below_trans hB.out hb); clear hb)
    | (go_at_call 61; (with_reducible refine (H2.out _ hB.out).mono ?_); rintro e y2 ⟨rfl, hb⟩; have hB := Lib.hid (below_trans hB.out hb); clear hb)
    | (go_at_call 61; (with_reducible refine (H3.out _ hB.out).mono ?_); rintro e y3 ⟨rfl, hb⟩; have hB := Lib.hid (below_trans hB.out hb); clear hb)
    | (go_at_call 63; (with_reducible refine (H4.out _ hB.out).mono ?_); rintro e y4 ⟨rfl, hb⟩; have hB := Lib.hid (below_trans hB.out hb); clear hb; have F := dead_row HD.out _ _ (HW0.out ▸ hB.out); have F1 := Lib.hid F.1; have F2 := Lib.hid (F.2 #[.int .i64 0, .bool false, .int .i64 0, .int .i64 0]); clear F)
    | (refine wpList_store_row rfl 46 (.tmp 2) (.tmp 22) rfl w.heap.size #[.int .i64 0, .bool false, .int .i64 0, .int .i64 0] rfl rfl _ _ F1.out (by kernel_rfl) rfl (by simp [Value.oneCell']) ?_))
  exact bodyPost_ret (results_cell_row rfl _ _ w.heap.size _ _ (0, 0) _ rfl F2.out.1 Tryd.underlying46 rfl (by as_aux_lemma => kernel_rfl)) rfl ⟨rfl, F2.out.2⟩
set_option maxHeartbeats 4000000 in
theorem comp_dead (h : Dead w v) : Calls Tryd.prog 87 #[v] w (DOut (.agg #[.int .i64 0, .slice none 0 0, .slice none 0 0, .slice none 0 0]) w) := by
  obtain ⟨W0, hW0⟩ : ∃ W0, W0 = w.alloc (.cells #[.int .i64 0, .slice none 0 0, .slice none 0 0, .slice none 0 0] 68) := ⟨_, rfl⟩
  have hB0 : Below w.heap.size w W0 := by rw [hW0]; exact (Below.refl _ _).alloc (Nat.le_refl _) _
  have h0 := h.below hB0
  have hB : Hid (Below W0.heap.size W0 W0) := Lib.hid (Below.refl _ _)
  have HD := Lib.hid h
  have HW0 := Lib.hid hW0
  have H0 : Hid (∀ y, Below W0.heap.size W0 y → Calls Tryd.prog 61 #[v, .int .u8 96] y (DOut (.bool false) y)) := Lib.hid fun y hb => (fun h => may_dead h 96) (h0.below hb)
  have H1 : Hid (∀ y, Below W0.heap.size W0 y → Calls Tryd.prog 61 #[v, .int .u8 95] y (DOut (.bool false) y)) := Lib.hid fun y hb => (fun h => may_dead h 95) (h0.below hb)
  have H2 : Hid (∀ y, Below W0.heap.size W0 y → Calls Tryd.prog 61 #[v, .int .u8 94] y (DOut (.bool false) y)) := Lib.hid fun y hb => (fun h => may_dead h 94) (h0.below hb)
  have H3 : Hid (∀ y, Below W0.heap.size W0 y → Calls Tryd.prog 109 #[v, .func (.func 110) #[] #[]] y (DOut (.agg #[.int .i64 0, .slice none 0 0, .slice none 0 0, .slice none 0 0]) y)) := Lib.hid fun y hb => (fun h => item_Comp_dead h _) (h0.below hb)
  clear h h0 hB0 hW0
  go_enter Tryd.func87, Tryd.ntmps87
  go_wp2_with fail
  rw [← HW0.out]
  go_wp2_with (first
    | (go_at_call 61; (with_reducible refine (H0.out _ hB.out).mono ?_); rintro e y0 ⟨rfl, hb⟩; have hB := Lib.hid (below_trans hB.out hb); clear hb)
    | (go_at_call 61; (with_reducible refine (H1.out _ hB.out).mono ?_); rintro e y1 ⟨rfl, hb⟩; have hB := Lib.hid (below_trans hB.out hb); clear hb)
    | (go_at_call 61; (with_reducible refine (H2.out _ hB.out).mono ?_); rintro e y2 ⟨rfl, hb⟩; have hB := Lib.hid (below_trans hB.out hb); clear hb)
    | (go_at_call 109; (with_reducible refine (H3.out _ hB.out).mono ?_); rintro e y3 ⟨rfl, hb⟩; have hB := Lib.hid (below_trans hB.out hb); clear hb; have F := dead_row HD.out _ _ (HW0.out ▸ hB.out); have F1 := Lib.hid F.1; have F2 := Lib.hid (F.2 #[.int .i64 0, .slice none 0 0, .slice none 0 0, .slice none 0 0]); clear F)
    | (refine wpList_store_row rfl 68 (.tmp 2) (.tmp 27) rfl w.heap.size #[.int .i64 0, .slice none 0 0, .slice none 0 0, .slice none 0 0] rfl rfl _ _ F1.out (by kernel_rfl) rfl (by simp [Value.oneCell']) ?_))
  exact bodyPost_ret (results_cell_row rfl _ _ w.heap.size _ _ (0, 0) _ rfl F2.out.1 Tryd.underlying68 rfl (by as_aux_lemma => kernel_rfl)) rfl ⟨rfl, F2.out.2⟩
set_option maxHeartbeats 2000000 in
theorem listVal_dead (h : Dead w v) (f : Value) : Calls Tryd.prog 65 #[v, f] w (DOut (.slice none 0 0) w) := by
  have H := Lib.hid (Count_dead h)
  clear h
  go_enter Tryd.func65, Tryd.ntmps65
  go_wp2_with (refine H.out.mono ?_; rintro e w' ⟨rfl, hb⟩; have HB := Lib.hid hb; clear hb)
  refine wp_loop_rounds 1 ?_
  rw [rounds_succ]
  go_wp2
  go_ret
  exact ⟨rfl, HB.out⟩
set_option maxHeartbeats 2000000 in
theorem listSub_dead (h : Dead w v) (f : Value) : Calls Tryd.prog 67 #[v, f] w (DOut (.slice none 0 0) w) := by
  have H := Lib.hid (Count_dead h)
  clear h
  go_enter Tryd.func67, Tryd.ntmps67
  go_wp2_with (refine H.out.mono ?_; rintro e w' ⟨rfl, hb⟩; have HB := Lib.hid hb; clear hb)
  refine wp_loop_rounds 1 ?_
  rw [rounds_succ]
  go_wp2
  go_ret
  exact ⟨rfl, HB.out⟩
theorem Vals_dead (h : Dead w v) : Calls Tryd.prog 27 #[v] w (DOut (.slice none 0 0) w) := by
  have H := Lib.hid (listVal_dead h)
  clear h
  go_enter Tryd.func27, Tryd.ntmps27
  go_wp2_with (refine (H.out _).mono ?_; rintro e w' ⟨rfl, hb⟩)
  go_ret
  exact ⟨rfl, hb⟩
set_option maxHeartbeats 4000000 in
theorem sub_dead (h : Dead w v) : Calls Tryd.prog 68 #[v] w (DOut (.agg #[.bool true, .slice none 0 0, .int .i64 0, .slice none 0 0, .slice none 0 0, .slice none 0 0]) w) := by
  obtain ⟨W0, hW0⟩ : ∃ W0, W0 = (w.alloc (.cells #[.bool false, .slice none 0 0, .int .i64 0, .slice none 0 0, .slice none 0 0, .slice none 0 0] 70)).alloc (.cells #[.bool true, .slice none 0 0, .int .i64 0, .slice none 0 0, .slice none 0 0, .slice none 0 0] 70) := ⟨_, rfl⟩
  have hB0 : Below w.heap.size w W0 := by rw [hW0]; exact ((Below.refl _ _).alloc (Nat.le_refl _) _).alloc (by simp) _
  have h0 := h.below hB0
  have hz : W0.heap.size = w.heap.size + 2 := by rw [hW0]; simp
  have r2 : W0.heap[w.heap.size]? = some (.cells #[.bool false, .slice none 0 0, .int .i64 0, .slice none 0 0, .slice none 0 0, .slice none 0 0] 70 (0, 0)) := by rw [hW0]; exact heap_alloc2_old _ _ _
  have r3 : W0.heap[w.heap.size + 1]? = some (.cells #[.bool true, .slice none 0 0, .int .i64 0, .slice none 0 0, .slice none 0 0, .slice none 0 0] 70 (0, 0)) := by rw [hW0]; exact heap_alloc2_new _ _ _
  have hB : Hid (Below W0.heap.size W0 W0) := Lib.hid (Below.refl _ _)
  have HM : Hid (∀ y x, Below W0.heap.size W0 y → Calls Tryd.prog 61 #[v, .int .u8 x] y (DOut (.bool false) y)) := Lib.hid fun y x hb => may_dead (h0.below hb) x
  have HC : Hid (∀ y, Below W0.heap.size W0 y → Calls Tryd.prog 87 #[v] y (DOut (.agg #[.int .i64 0, .slice none 0 0, .slice none 0 0, .slice none 0 0]) y)) := Lib.hid fun y hb => comp_dead (h0.below hb)
  have FIN : Hid (∀ y, Below W0.heap.size W0 y → y.heap[w.heap.size + 1]? = some (.cells #[.bool true, .slice none 0 0, .int .i64 0, .slice none 0 0, .slice none 0 0, .slice none 0 0] 70 (0, 0)) ∧ (y.setRow (w.heap.size + 1) #[.bool true, .slice none 0 0, .int .i64 0, .slice none 0 0, .slice none 0 0, .slice none 0 0]).heap[w.heap.size + 1]? = some (.cells #[.bool true, .slice none 0 0, .int .i64 0, .slice none 0 0, .slice none 0 0, .slice none 0 0] 70 (0, 0)) ∧
      (y.setRow (w.heap.size + 1) #[.bool true, .slice none 0 0, .int .i64 0, .slice none 0 0, .slice none 0 0, .slice none 0 0]).heap[w.heap.size]? = some (.cells #[.bool false, .slice none 0 0, .int .i64 0, .slice none 0 0, .slice none 0 0, .slice none 0 0] 70 (0, 0)) ∧
      ((y.setRow (w.heap.size + 1) #[.bool true, .slice none 0 0, .int .i64 0, .slice none 0 0, .slice none 0 0, .slice none 0 0]).setRow w.heap.size #[.bool true, .slice none 0 0, .int .i64 0, .slice none 0 0, .slice none 0 0, .slice none 0 0]).heap[w.heap.size]? = some (.cells #[.bool true, .slice none 0 0, .int .i64 0, .slice none 0 0, .slice none 0 0, .slice none 0 0] 70 (0, 0)) ∧ Below w.heap.size w ((y.setRow (w.heap.size + 1) #[.bool true, .slice none 0 0, .int .i64 0, .slice none 0 0, .slice none 0 0, .slice none 0 0]).setRow w.heap.size #[.bool true, .slice none 0 0, .int .i64 0, .slice none 0 0, .slice none 0 0, .slice none 0 0])) := Lib.hid fun y hb => by
    have e2 := (hb.block (w.heap.size) (by omega)).trans r2
    have e3 := (hb.block (w.heap.size + 1) (by omega)).trans r3
    have e4 : (y.setRow (w.heap.size + 1) #[.bool true, .slice none 0 0, .int .i64 0, .slice none 0 0, .slice none 0 0, .slice none 0 0]).heap[w.heap.size]? = some (.cells #[.bool false, .slice none 0 0, .int .i64 0, .slice none 0 0, .slice none 0 0, .slice none 0 0] 70 (0, 0)) := (setRow_other _ _ _ _ (by omega)).trans e2
    exact ⟨e3, setRow_heap _ _ _ _ _ _ e3, e4, setRow_heap _ _ _ _ _ _ e4, below_setRow (below_setRow (hB0.trans (hb.mono (by omega))) (by omega) _) (Nat.le_refl _) _⟩
  have HW0 := Lib.hid hW0
  clear h h0 hB0 hW0 r2 r3 hz
  go_enter Tryd.func68, Tryd.ntmps68
  go_wp2_with fail
  rw [← HW0.out]
  go_wp2_with (first
    | (go_at_call 61; (with_reducible refine (HM.out _ _ hB.out).mono ?_); rintro e y0 ⟨rfl, hb⟩; have hB := Lib.hid (below_trans hB.out hb); clear hb)
    | (go_at_call 87; (with_reducible refine (HC.out _ hB.out).mono ?_); rintro e y1 ⟨rfl, hb⟩; have F := FIN.out y1 (below_trans hB.out hb); have F1 := Lib.hid F.1; have F2 := Lib.hid F.2.1; have F3 := Lib.hid F.2.2.1; have F4 := Lib.hid F.2.2.2; clear hb F)
    | (refine wpList_store_at rfl 68 (.tmp 24) (.tmp 23) rfl (w.heap.size + 1) 2 (.agg #[.int .i64 0, .slice none 0 0, .slice none 0 0, .slice none 0 0]) rfl rfl _ _ #[.bool true, .slice none 0 0, .int .i64 0, .slice none 0 0, .slice none 0 0, .slice none 0 0] F1.out (by kernel_rfl) (by decide) (by rfl) (by rfl) ?_)
    | (refine wpList_load_row rfl 70 (.tmp 3) rfl (w.heap.size + 1) rfl _ _ _ _ F2.out Tryd.underlying70 rfl (by kernel_rfl) ?_)
    | (refine wpList_store_row rfl 70 (.tmp 2) (.tmp 25) rfl w.heap.size #[.bool true, .slice none 0 0, .int .i64 0, .slice none 0 0, .slice none 0 0, .slice none 0 0] rfl rfl _ _ F3.out (by kernel_rfl) rfl (by simp [Value.oneCell']) ?_))
  exact bodyPost_ret (results_cell_row rfl _ _ w.heap.size _ _ (0, 0) _ rfl F4.out.1 Tryd.underlying70 rfl (by as_aux_lemma => kernel_rfl)) rfl ⟨rfl, F4.out.2⟩
set_option maxHeartbeats 4000000 in
theorem Rec_dead (h : Dead w v) : Calls Tryd.prog 30 #[v] w (DOut (.slice none 0 0) w) := by
  have hB : Hid (Below w.heap.size w w) := Lib.hid (Below.refl _ _)
  have HM : Hid (∀ y x, Below w.heap.size w y → Calls Tryd.prog 61 #[v, .int .u8 x] y (DOut (.bool false) y)) := Lib.hid fun y x hb => may_dead (h.below hb) x
  have HS : Hid (∀ y, Below w.heap.size w y → Calls Tryd.prog 68 #[v] y (DOut (.agg #[.bool true, .slice none 0 0, .int .i64 0, .slice none 0 0, .slice none 0 0, .slice none 0 0]) y)) := Lib.hid fun y hb => sub_dead (h.below hb)
  have HG : Hid (∀ y, Below w.heap.size w y → Calls Tryd.prog 69 #[v] y fun e w' => e = .returned (.bool false) ∧ y = w') := Lib.hid fun y hb => goes_dead (h.below hb)
  clear h
  go_enter Tryd.func30, Tryd.ntmps30
  go_wp2_with (first
    | (go_at_call 61; (with_reducible refine (HM.out _ _ hB.out).mono ?_); rintro e y0 ⟨rfl, hb⟩; have hB := Lib.hid (below_trans hB.out hb); clear hb)
    | (go_at_call 68; (with_reducible refine (HS.out _ hB.out).mono ?_); rintro e y1 ⟨rfl, hb⟩; have hB := Lib.hid ((below_trans hB.out hb).alloc (below_trans hB.out hb).size (.cells #[.bool true, .slice none 0 0, .int .i64 0, .slice none 0 0, .slice none 0 0, .slice none 0 0] 70)); clear hb)
    | (go_at_call 69; (with_reducible refine (HG.out _ hB.out).mono ?_); rintro e y2 ⟨rfl, rfl⟩))
  go_ret
  exact ⟨rfl, hB.out⟩
end
end Go.Proofs.YtphmknhlibampaaDoor
