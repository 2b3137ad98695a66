/-
  Layer 5, code: Name, Find.
-/
import Derived.Test.YtlflmobaegfnaabDoorOpEa
namespace Go.Proofs.YtlflmobaegfnaabDoor
open Go.RowKit
set_option linter.unusedVariables false
set_option linter.unusedSimpArgs false
set_option maxRecDepth 100000

namespace Op5
theorem table_up : table.Pairwise (fun a b => a.1 < b.1) := by decide +kernel
theorem table_names : table.Pairwise (fun a b => a.2 ≠ b.2) := by decide +kernel
theorem name_none {op : Int} (h : ∀ p ∈ table, (p.1 : Int) < op) : nameOf op = [] := by
  unfold nameOf
  rw [List.find?_eq_none.2 (fun p hp => by have := h p hp; simp; omega)]
theorem name_at {op : Int} {pre : List (Nat × List UInt8)} {f : Nat} {x : List UInt8} (hp : pre ++ [(f, x)] <+: table) (h : ∀ p ∈ pre, (p.1 : Int) < op) (hf : (f : Int) = op) : nameOf op = x := by
  obtain ⟨t, ht⟩ := hp
  unfold nameOf
  rw [← ht, List.append_assoc, List.find?_append, List.find?_eq_none.2 (fun p hp => by have := h p hp; simp; omega)]
  simp [hf]
theorem name_over {op : Int} {pre : List (Nat × List UInt8)} {f : Nat} {x : List UInt8} (hp : pre ++ [(f, x)] <+: table) (h : ∀ p ∈ pre, (p.1 : Int) < op) (hf : op < (f : Int)) : nameOf op = [] := by
  obtain ⟨t, ht⟩ := hp
  have hu := table_up
  rw [← ht, List.append_assoc, List.pairwise_append] at hu
  have hu2 := hu.2.1
  rw [List.singleton_append, List.pairwise_cons] at hu2
  unfold nameOf
  rw [← ht, List.append_assoc, List.find?_eq_none.2]
  intro p hp
  rcases List.mem_append.1 hp with hp | hp
  · have := h p hp; simp; omega
  · rcases List.mem_cons.1 hp with rfl | hp
    · simp; omega
    · have := hu2.1 p hp; simp; omega
theorem find_none {x : List UInt8} (h : ∀ p ∈ table, p.2 ≠ x) : findOf x = -1 := by
  unfold findOf
  rw [List.find?_eq_none.2 (fun p hp => by simpa using h p hp)]
theorem find_at {x : List UInt8} {pre : List (Nat × List UInt8)} {f : Nat} (hp : pre ++ [(f, x)] <+: table) (h : ∀ p ∈ pre, p.2 ≠ x) : findOf x = f := by
  obtain ⟨t, ht⟩ := hp
  unfold findOf
  rw [← ht, List.append_assoc, List.find?_append, List.find?_eq_none.2 (fun p hp => by simpa using h p hp)]
  simp
end Op5

theorem name1_any (op : Int) (f : Nat) (x : List UInt8) (W : World) (Bo Bn : Nat) (u : Value) (h0 : W.cell? ⟨Bo, 0, none⟩ = some (.int .i64 op)) (h1 : W.cell? ⟨Bn, 0, none⟩ = some u) (h2 : W.frozen? ⟨Bn, 0, none⟩ = false) (hne : Bo ≠ Bn) :
    Calls Tryd.prog 13 #[.int .i64 (f : Int), Sv x, .pointer (some ⟨Bo, 0, none⟩), .pointer (some ⟨Bn, 0, none⟩)] W fun e W' => e = .returned (.bool (decide ((f : Int) < op))) ∧ W' = if (f : Int) = op then W.setCell ⟨Bn, 0, none⟩ (Sv x) else W := by
  by_cases hf : (f : Int) = op
  · rw [if_pos hf]
    subst hf
    go_enter Tryd.func13, Tryd.ntmps13
    go_wp2
    go_ret
    exact ⟨by simp, rfl⟩
  · rw [if_neg hf]
    go_enter Tryd.func13, Tryd.ntmps13
    go_wp2
    go_ret
    exact ⟨rfl, rfl⟩
theorem find1_any (s : ByteArray) (f : Nat) (x : List UInt8) (W : World) (Bo Bn : Nat) (u : Value) (h0 : W.cell? ⟨Bo, 0, none⟩ = some (.string s)) (h1 : W.cell? ⟨Bn, 0, none⟩ = some u) (h2 : W.frozen? ⟨Bn, 0, none⟩ = false) (hne : Bo ≠ Bn) :
    Calls Tryd.prog 16 #[.int .i64 (f : Int), Sv x, .pointer (some ⟨Bo, 0, none⟩), .pointer (some ⟨Bn, 0, none⟩)] W fun e W' => e = .returned (.bool (decide (x ≠ s.data.toList))) ∧ W' = if x = s.data.toList then W.setCell ⟨Bn, 0, none⟩ (.int .i64 (f : Int)) else W := by
  by_cases hf : x = s.data.toList
  · rw [if_pos hf]
    have hx : (x == s.toList) = true := by rw [ByteArray.toList_eq]; simpa using hf
    have hx2 : (x != s.toList) = false := by rw [ByteArray.toList_eq]; simpa using hf
    have hd : decide (x ≠ s.data.toList) = false := by simpa using hf
    rw [hd]
    clear hf hd
    go_enter Tryd.func16, Tryd.ntmps16
    go_wp2
    go_ret
    exact ⟨rfl, rfl⟩
  · rw [if_neg hf]
    have hx : (x == s.toList) = false := by rw [ByteArray.toList_eq]; simpa using hf
    have hx2 : (x != s.toList) = true := by rw [ByteArray.toList_eq]; simpa using hf
    have hd : decide (x ≠ s.data.toList) = true := by simpa using hf
    rw [hd]
    clear hf hd
    go_enter Tryd.func16, Tryd.ntmps16
    go_wp2
    go_ret
    exact ⟨rfl, rfl⟩
theorem lies_cell {β : Type} {B : Nat} {p : β → World → Prop} (h : ∀ s A C, (∀ b, b < B → C.heap[b]? = A.heap[b]?) → p s A → p s C) : Lies B p := fun s A C hp hb => h s A C (fun b hl => hb.block b hl) hp

set_option maxHeartbeats 2000000 in
theorem name_any (op : Int) (w : World) (hT : Tab5 w) :
    Calls Tryd.prog 5 #[.int .i64 op] w fun e w' => e = .returned (Sv (Op5.nameOf op)) ∧ Below w.heap.size w w' := by
  obtain ⟨Q, hQ⟩ : ∃ Q : Ending → World → Prop, Q = (fun e w' => e = .returned (Sv (Op5.nameOf op)) ∧ Below w.heap.size w w') := ⟨_, rfl⟩
  rw [← hQ]
  have HQ := Lib.hid hQ
  clear hQ
  obtain ⟨W, hW⟩ : ∃ W, W = (w.alloc (.cells #[.int .i64 op] 22)).alloc (.cells #[.string ⟨#[]⟩] 9) := ⟨_, rfl⟩
  have hbW : Below w.heap.size w W := by rw [hW]; exact ((Below.refl _ _).alloc (Nat.le_refl _) _).alloc (by simp) _
  have hz : W.heap.size = w.heap.size + 2 := by rw [hW]; simp
  have c0 : W.cell? ⟨w.heap.size, 0, none⟩ = some (.int .i64 op) := by rw [hW]; go_simp
  have c1 : W.cell? ⟨w.heap.size + 1, 0, none⟩ = some (.string ⟨#[]⟩) := by rw [hW]; go_simp
  have c2 : W.frozen? ⟨w.heap.size + 1, 0, none⟩ = false := by rw [hW]; go_simp
  have HE := Lib.hid (each_any W (hT.below hbW hT.lt) 13 #[.pointer (some ⟨w.heap.size, 0, none⟩), .pointer (some ⟨w.heap.size + 1, 0, none⟩)] (enters_of Tryd.func13 (by kernel_rfl) rfl) (fun b o => b = w.heap.size + 1) (fun b o h => ⟨by omega, by have := hT.lt; omega⟩)
    (fun pre U => U.cell? ⟨w.heap.size, 0, none⟩ = some (.int .i64 op) ∧ U.cell? ⟨w.heap.size + 1, 0, none⟩ = some (Sv []) ∧ U.frozen? ⟨w.heap.size + 1, 0, none⟩ = false ∧ ∀ p ∈ pre, (p.1 : Int) < op)
    (fun pre U => ∃ (pre0 : List (Nat × List UInt8)) (f : Nat) (x : List UInt8), pre = pre0 ++ [(f, x)] ∧ (∀ p ∈ pre0, (p.1 : Int) < op) ∧ (((f : Int) = op ∧ U.cell? ⟨w.heap.size + 1, 0, none⟩ = some (Sv x)) ∨ (op < (f : Int) ∧ U.cell? ⟨w.heap.size + 1, 0, none⟩ = some (Sv []))))
    (by
      rintro pre A C ⟨h1, h2, h3, h4⟩ hb
      exact ⟨(hb.cell (p := ⟨w.heap.size, 0, none⟩) (by dsimp only; omega)).trans h1, (hb.cell (p := ⟨w.heap.size + 1, 0, none⟩) (by dsimp only; omega)).trans h2, (hb.frozen (p := ⟨w.heap.size + 1, 0, none⟩) (by dsimp only; omega)).trans h3, h4⟩)
    (by
      rintro pre A C ⟨pre0, f, x, h1, h2, h3⟩ hb
      refine ⟨pre0, f, x, h1, h2, ?_⟩
      rcases h3 with ⟨h3, h4⟩ | ⟨h3, h4⟩
      · exact .inl ⟨h3, (hb.cell (p := ⟨w.heap.size + 1, 0, none⟩) (by dsimp only; omega)).trans h4⟩
      · exact .inr ⟨h3, (hb.cell (p := ⟨w.heap.size + 1, 0, none⟩) (by dsimp only; omega)).trans h4⟩)
    ⟨c0, c1, c2, fun _ h => by cases h⟩
    (by
      rintro pre f x U ⟨h1, h2, h3, h4⟩
      refine (name1_any op f x U w.heap.size (w.heap.size + 1) _ h1 h2 h3 (by omega)).mono ?_
      rintro e U' ⟨rfl, rfl⟩
      by_cases hlt : (f : Int) < op
      · have hne : ¬ ((f : Int) = op) := by omega
        rw [if_neg hne]
        refine ⟨true, by rw [decide_eq_true hlt], .inl ⟨rfl, ⟨h1, h2, h3, fun p hp => ?_⟩, Keep.refl U⟩⟩
        rcases List.mem_append.1 hp with hp | hp
        · exact h4 p hp
        · rw [List.mem_singleton.1 hp]; exact hlt
      · refine ⟨false, by rw [decide_eq_false hlt], .inr ⟨rfl, ⟨pre, f, x, rfl, h4, ?_⟩, ?_⟩⟩
        · by_cases he : (f : Int) = op
          · rw [if_pos he]
            exact .inl ⟨he, World.cell?_setCell_same _ _ _ h2⟩
          · rw [if_neg he]
            exact .inr ⟨by omega, h2⟩
        · split
          · exact Keep.setCell _ rfl
          · exact Keep.refl U))
  have HW := Lib.hid hW
  have HBW := Lib.hid hbW
  have HZ := Lib.hid hz
  clear hW hbW hz c0 c1 c2
  go_enter Tryd.func5, Tryd.ntmps5
  go_wp2_with fail
  rw [← HW.out]
  refine HE.out.mono ?_
  rintro e w9 ⟨⟨v, rfl⟩, hor, hk⟩
  have hres : w9.cell? ⟨w.heap.size + 1, 0, none⟩ = some (Sv (Op5.nameOf op)) := by
    rcases hor with ⟨_, h2, _, h4⟩ | ⟨pre, hp, pre0, f, x, rfl, h4, h5⟩
    · rw [Op5.name_none h4]; exact h2
    · rcases h5 with ⟨h5, h6⟩ | ⟨h5, h6⟩
      · rw [Op5.name_at hp h4 h5]; exact h6
      · rw [Op5.name_over hp h4 h5]; exact h6
  have hb9 : Below w.heap.size w w9 := HBW.out.trans (hk.below (by have := HZ.out; omega) (fun k o h e => by have : k = w.heap.size + 1 := e; omega))
  have HB9 := Lib.hid hb9
  clear hor hk hb9
  obtain ⟨y, hy⟩ : ∃ y, Op5.nameOf op = y := ⟨_, rfl⟩
  rw [hy] at hres
  have HY := Lib.hid hy
  clear hy
  go_wp2
  rw [HQ.out]
  exact ⟨by rw [HY.out]; rfl, HB9.out⟩

set_option maxHeartbeats 2000000 in
theorem find_any (s : ByteArray) (w : World) (hT : Tab5 w) :
    Calls Tryd.prog 7 #[.string s] w fun e w' => e = .returned (.int .i64 (Op5.findOf s.data.toList)) ∧ Below w.heap.size w w' := by
  obtain ⟨Q, hQ⟩ : ∃ Q : Ending → World → Prop, Q = (fun e w' => e = .returned (.int .i64 (Op5.findOf s.data.toList)) ∧ Below w.heap.size w w') := ⟨_, rfl⟩
  rw [← hQ]
  have HQ := Lib.hid hQ
  clear hQ
  obtain ⟨W, hW⟩ : ∃ W, W = (w.alloc (.cells #[.string s] 9)).alloc (.cells #[.int .i64 (-1)] 22) := ⟨_, rfl⟩
  have hbW : Below w.heap.size w W := by rw [hW]; exact ((Below.refl _ _).alloc (Nat.le_refl _) _).alloc (by simp) _
  have hz : W.heap.size = w.heap.size + 2 := by rw [hW]; simp
  have c0 : W.cell? ⟨w.heap.size, 0, none⟩ = some (.string s) := by rw [hW]; go_simp
  have c1 : W.cell? ⟨w.heap.size + 1, 0, none⟩ = some (.int .i64 (-1)) := by rw [hW]; go_simp
  have c2 : W.frozen? ⟨w.heap.size + 1, 0, none⟩ = false := by rw [hW]; go_simp
  have HE := Lib.hid (each_any W (hT.below hbW hT.lt) 16 #[.pointer (some ⟨w.heap.size, 0, none⟩), .pointer (some ⟨w.heap.size + 1, 0, none⟩)] (enters_of Tryd.func16 (by kernel_rfl) rfl) (fun b o => b = w.heap.size + 1) (fun b o h => ⟨by omega, by have := hT.lt; omega⟩)
    (fun pre U => U.cell? ⟨w.heap.size, 0, none⟩ = some (.string s) ∧ U.cell? ⟨w.heap.size + 1, 0, none⟩ = some (.int .i64 (-1)) ∧ U.frozen? ⟨w.heap.size + 1, 0, none⟩ = false ∧ ∀ p ∈ pre, p.2 ≠ s.data.toList)
    (fun pre U => ∃ (pre0 : List (Nat × List UInt8)) (f : Nat), pre = pre0 ++ [(f, s.data.toList)] ∧ (∀ p ∈ pre0, p.2 ≠ s.data.toList) ∧ U.cell? ⟨w.heap.size + 1, 0, none⟩ = some (.int .i64 (f : Int)))
    (by
      rintro pre A C ⟨h1, h2, h3, h4⟩ hb
      exact ⟨(hb.cell (p := ⟨w.heap.size, 0, none⟩) (by dsimp only; omega)).trans h1, (hb.cell (p := ⟨w.heap.size + 1, 0, none⟩) (by dsimp only; omega)).trans h2, (hb.frozen (p := ⟨w.heap.size + 1, 0, none⟩) (by dsimp only; omega)).trans h3, h4⟩)
    (by
      rintro pre A C ⟨pre0, f, h1, h2, h3⟩ hb
      exact ⟨pre0, f, h1, h2, (hb.cell (p := ⟨w.heap.size + 1, 0, none⟩) (by dsimp only; omega)).trans h3⟩)
    ⟨c0, c1, c2, fun _ h => by cases h⟩
    (by
      rintro pre f x U ⟨h1, h2, h3, h4⟩
      refine (find1_any s f x U w.heap.size (w.heap.size + 1) _ h1 h2 h3 (by omega)).mono ?_
      rintro e U' ⟨rfl, rfl⟩
      by_cases hx : x = s.data.toList
      · rw [if_pos hx]
        refine ⟨false, by simp [hx], .inr ⟨rfl, ⟨pre, f, by rw [hx], h4, World.cell?_setCell_same _ _ _ h2⟩, Keep.setCell _ rfl⟩⟩
      · rw [if_neg hx]
        refine ⟨true, by simp [hx], .inl ⟨rfl, ⟨h1, h2, h3, fun p hp => ?_⟩, Keep.refl U⟩⟩
        rcases List.mem_append.1 hp with hp | hp
        · exact h4 p hp
        · rw [List.mem_singleton.1 hp]; exact hx))
  have HW := Lib.hid hW
  have HBW := Lib.hid hbW
  have HZ := Lib.hid hz
  clear hW hbW hz c0 c1 c2
  go_enter Tryd.func7, Tryd.ntmps7
  go_wp2_with fail
  rw [← HW.out]
  refine HE.out.mono ?_
  rintro e w9 ⟨⟨v, rfl⟩, hor, hk⟩
  have hres : w9.cell? ⟨w.heap.size + 1, 0, none⟩ = some (.int .i64 (Op5.findOf s.data.toList)) := by
    rcases hor with ⟨_, h2, _, h4⟩ | ⟨pre, hp, pre0, f, rfl, h4, h5⟩
    · rw [Op5.find_none h4]; exact h2
    · rw [Op5.find_at hp h4]; exact h5
  have hb9 : Below w.heap.size w w9 := HBW.out.trans (hk.below (by have := HZ.out; omega) (fun k o h e => by have : k = w.heap.size + 1 := e; omega))
  have HB9 := Lib.hid hb9
  clear hor hk hb9
  obtain ⟨y, hy⟩ : ∃ y, Op5.findOf s.data.toList = y := ⟨_, rfl⟩
  rw [hy] at hres
  have HY := Lib.hid hy
  clear hy
  go_wp2
  rw [HQ.out]
  exact ⟨by rw [HY.out]; rfl, HB9.out⟩
end Go.Proofs.YtlflmobaegfnaabDoor
