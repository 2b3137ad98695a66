/-
  Texts of this claim, one behind the other: part 7.
-/
import Derived.Deep.Draws
import Derived.Deep.RegionHeld3
import Derived.Maps.AppendAt
import Derived.Test.YtkdhjejchdcipaaDoorMgTbinCut6
/-
  Layer 6, code: lists' bytes.
-/
namespace Go.Proofs.YtkdhjejchdcipaaDoor
open Go.RowKit
set_option linter.unusedVariables false
set_option linter.unusedSimpArgs false
set_option maxRecDepth 100000

theorem Tb.flat_len {α : Type} (one : α → List Nat) (M : Nat) (l : List α) (h : ∀ x ∈ l, (one x).length ≤ M) : (l.flatMap one).length ≤ l.length * M := by
  induction l with
  | nil => simp
  | cons x l ih =>
    have h1 := h x (by simp)
    have h2 := ih fun y hy => h y (by simp [hy])
    rw [List.flatMap_cons, List.length_append, List.length_cons, Nat.succ_mul]
    omega
theorem Tb.flat_lt {α : Type} (one : α → List Nat) (h : ∀ x, ∀ y ∈ one x, y < 256) (l : List α) : ∀ y ∈ l.flatMap one, y < 256 := by
  intro y hy
  obtain ⟨x, -, hx⟩ := List.mem_flatMap.1 hy
  exact h x y hx
theorem Tb.putList_lt {α : Type} (one : α → List Nat) (h : ∀ x, ∀ y ∈ one x, y < 256) (l : List α) : ∀ y ∈ Tb.putList one l, y < 256 := by
  intro y hy
  rcases List.mem_append.1 hy with hy | hy
  · exact Leb.putU_lt _ y hy
  · exact Tb.flat_lt one h l y hy
theorem Tb.putList_len {α : Type} (one : α → List Nat) (M : Nat) (l : List α) (hl : l.length ≤ 10000) (h : ∀ x ∈ l, (one x).length ≤ M) : (Tb.putList one l).length ≤ 10 + 10000 * M := by
  have h1 := Tb.flat_len one M l h
  have h2 := Leb.putU_len10 l.length (by omega)
  have h3 : l.length * M ≤ 10000 * M := Nat.mul_le_mul_right _ hl
  unfold Tb.putList
  rw [List.length_append]
  omega
theorem Tb.take_flat {α : Type} (one : α → List Nat) (l : List α) (k : Nat) (h : k < l.length) (pre : List Nat) : pre ++ (l.take k).flatMap one ++ one l[k] = pre ++ (l.take (k + 1)).flatMap one := by
  rw [List.take_succ_eq_append_getElem h, List.flatMap_append, List.append_assoc]
  simp
set_option maxHeartbeats 4000000 in
theorem putList_h (l : List Hp) (A : Option Addr) (c : Nat) (w : World) (hT : Tab6 w) (hl : l.length ≤ 10000) (hp : ∀ x ∈ l, Kd.pIdx x = true) (hs : Seg 2 Hp.cs w w.heap.size A c l) :
    Calls Tryd.prog 123 #[.slice A l.length c, .func (.func 124) #[] #[]] w (Made (Tb.putList Tb.putIdx l) w) := by
  obtain ⟨Q, hQ⟩ : ∃ Q : Ending → World → Prop, Q = Made (Tb.putList Tb.putIdx l) w := ⟨_, rfl⟩
  rw [← hQ]
  have HQ := Lib.hid hQ
  have HS := Lib.hid hs
  have HC : Hid (∀ x ∈ l, ∀ W, Below w.heap.size w W → Calls Tryd.prog 124 #[x.val] W (Made (Tb.putIdx x) W)) := Lib.hid fun x hx W hW => putIdx_any x (hp x hx) W
  have HM : Hid (∀ k, k ≤ l.length → (Leb.putU l.length ++ (l.take k).flatMap Tb.putIdx).length ≤ 120010) := Lib.hid fun k hk => by
    have h1 := Tb.flat_len Tb.putIdx 12 (l.take k) fun x hx => Nat.le_trans (Tb.putIdx_len (hp x (List.mem_of_mem_take hx))) (by omega)
    have h2 := Leb.putU_len10 l.length (by omega)
    rw [List.length_take] at h1
    rw [List.length_append]
    omega
  have HM1 : Hid (∀ x ∈ l, (Tb.putIdx x).length ≤ 12) := Lib.hid fun x hx => Nat.le_trans (Tb.putIdx_len (hp x hx)) (by omega)
  have HP : Hid (∀ W, Calls Tryd.prog 126 #[.int .u64 (l.length : Int)] W fun e w' => ∃ v, e = .returned v ∧ Own W.heap.size w' v (Leb.putU l.length) ∧ Below W.heap.size W w') := Lib.hid fun W => PutU_any l.length W (by omega)
  have hw : IntKind.u64.wrap (l.length : Int) = (l.length : Int) := IntWalk.u64_in _ (by omega)
  clear hT hp hs hQ
  go_enter Tryd.func123, Tryd.ntmps123
  go_wp2_with ((with_reducible refine (HP.out _).mono ?_); rintro e w1 ⟨v1, rfl, ho, hb⟩; obtain ⟨A1, c1, rfl, -, ho2⟩ := ho.bs (Leb.putU_lt _); have HO := Lib.hid ho2; have HB := Lib.hid hb; clear ho hb ho2)
  clear hw HP
  go_loopw [5, 14] (fun out i wr => ∃ (k : Nat) (A2 : Option Addr) (c2 m : Nat), k ≤ l.length ∧ i = .int .i64 (k : Int) ∧ out = .slice A2 m c2 ∧ Hid (m = (Leb.putU l.length ++ (l.take k).flatMap Tb.putIdx).length) ∧ Hid (Own w.heap.size wr (.slice A2 m c2) (Leb.putU l.length ++ (l.take k).flatMap Tb.putIdx)) ∧ Below w.heap.size w wr) (fun _ i _ => l.length - (intOf i).toNat)
  case atStart => exact ⟨0, A1, c1, _, Nat.zero_le _, rfl, rfl, by simp [Hid], by simpa [Hid] using HO.out, HB.out⟩
  case round =>
    obtain ⟨k, A2, c2, m, hk, rfl, rfl, hm, HO, hB⟩ := hrel
    have HB := Lib.hid hB
    clear hB
    by_cases hlt : k < l.length
    · obtain ⟨b, off, rfl, hb, hc⟩ := HS.out.2.2 (by omega)
      have g0 := (HB.out.cell (p := ⟨b, off + k * 2 + 0, none⟩) hb).trans (hc k hlt 0 _ rfl)
      have g1 := (HB.out.cell (p := ⟨b, off + k * 2 + 1, none⟩) hb).trans (hc k hlt 1 _ rfl)
      simp only [Nat.add_zero] at g0
      clear hc HS
      have hmem := List.getElem_mem hlt
      have HC := Lib.hid (HC.out _ hmem)
      have HM1 := HM1.out _ hmem
      have HT1 := Lib.hid (Tb.take_flat Tb.putIdx l k hlt (Leb.putU l.length))
      have HLX := Lib.hid ((fun h : Hp => Leb.putU_lt h.n.toNat) l[k])
      have HMk := HM.out k hk
      clear hmem
      obtain ⟨x, hx⟩ : ∃ x, x = l[k] := ⟨_, rfl⟩
      rw [← hx] at g0 g1 HC HM1 HT1 HLX
      clear hx
      generalize Leb.putU l.length ++ (l.take k).flatMap Tb.putIdx = pre at HO hm HMk HT1
      have HMK := Lib.hid HMk
      have HX := Lib.hid HM1
      clear HMk HM1
      go_wp2_with (first
        | ((with_reducible refine (HC.out _ (HB.out.alloc HB.out.size _)).mono ?_); rintro e w2 ⟨v2, rfl, ho, hb⟩; obtain ⟨A3, c3, rfl, hy, -⟩ := ho.bs HLX.out; have HO2 := Lib.hid ((HO.out.alloc _).below hb); have HB2 := Lib.hid ((HB.out.alloc HB.out.size _).trans (hb.mono (HB.out.alloc HB.out.size _).size)); have HY := Lib.hid hy; clear ho hb hy)
        | (at_builtin; refine cat_slice rfl _ _ rfl _ (Tb.putIdx x) (Tb.putIdx x).length rfl rfl HO2.out HY.out HB2.out.size (pre.length + (Tb.putIdx x).length) (by have := HMK.out; have := HX.out; omega) rfl ?_; intro A5 c5 w5 ho2 hg2; have HO5 := Lib.hid ho2; have HB5 := Lib.hid (HO2.out.grown hg2 (Nat.le_refl _) HB2.out.size HB2.out); clear ho2 hg2))
      go_roundw
      case rel => exact ⟨k + 1, A5, c5, _, by omega, by go_num, rfl, by rw [Hid, ← HT1.out, List.length_append], by rw [Hid, ← HT1.out]; exact HO5.out, HB5.out⟩
      case measure => simp [intOf]; omega
    · have hkn : k = l.length := by omega
      clear HS
      go_wp2
      rw [HQ.out]
      refine ⟨_, rfl, ?_, HB.out⟩
      have h := HO.out
      rw [hkn, List.take_length] at h
      exact h
set_option maxHeartbeats 4000000 in
theorem putList_v (l : List Vl) (A : Option Addr) (c : Nat) (w : World) (hT : Tab6 w) (hl : l.length ≤ 10000) (hp : ∀ x ∈ l, Kd.pVal x = true) (hs : Seg 4 Vl.cs w w.heap.size A c l) :
    Calls Tryd.prog 155 #[.slice A l.length c, .func (.func 99) #[] #[]] w (Made (Tb.putList Tb.putVal l) w) := by
  obtain ⟨Q, hQ⟩ : ∃ Q : Ending → World → Prop, Q = Made (Tb.putList Tb.putVal l) w := ⟨_, rfl⟩
  rw [← hQ]
  have HQ := Lib.hid hQ
  have HS := Lib.hid hs
  have HC : Hid (∀ x ∈ l, ∀ W, Below w.heap.size w W → Calls Tryd.prog 99 #[x.val] W (Made (Tb.putVal x) W)) := Lib.hid fun x hx W hW => putVal_any x (hp x hx) W (hT.below hW)
  have HM : Hid (∀ k, k ≤ l.length → (Leb.putU l.length ++ (l.take k).flatMap Tb.putVal).length ≤ 120010) := Lib.hid fun k hk => by
    have h1 := Tb.flat_len Tb.putVal 12 (l.take k) fun x hx => Nat.le_trans (Tb.putVal_len11 (hp x (List.mem_of_mem_take hx))) (by omega)
    have h2 := Leb.putU_len10 l.length (by omega)
    rw [List.length_take] at h1
    rw [List.length_append]
    omega
  have HM1 : Hid (∀ x ∈ l, (Tb.putVal x).length ≤ 12) := Lib.hid fun x hx => Nat.le_trans (Tb.putVal_len11 (hp x hx)) (by omega)
  have HP : Hid (∀ W, Calls Tryd.prog 126 #[.int .u64 (l.length : Int)] W fun e w' => ∃ v, e = .returned v ∧ Own W.heap.size w' v (Leb.putU l.length) ∧ Below W.heap.size W w') := Lib.hid fun W => PutU_any l.length W (by omega)
  have hw : IntKind.u64.wrap (l.length : Int) = (l.length : Int) := IntWalk.u64_in _ (by omega)
  clear hT hp hs hQ
  go_enter Tryd.func155, Tryd.ntmps155
  go_wp2_with ((with_reducible refine (HP.out _).mono ?_); rintro e w1 ⟨v1, rfl, ho, hb⟩; obtain ⟨A1, c1, rfl, -, ho2⟩ := ho.bs (Leb.putU_lt _); have HO := Lib.hid ho2; have HB := Lib.hid hb; clear ho hb ho2)
  clear hw HP
  go_loopw [5, 14] (fun out i wr => ∃ (k : Nat) (A2 : Option Addr) (c2 m : Nat), k ≤ l.length ∧ i = .int .i64 (k : Int) ∧ out = .slice A2 m c2 ∧ Hid (m = (Leb.putU l.length ++ (l.take k).flatMap Tb.putVal).length) ∧ Hid (Own w.heap.size wr (.slice A2 m c2) (Leb.putU l.length ++ (l.take k).flatMap Tb.putVal)) ∧ Below w.heap.size w wr) (fun _ i _ => l.length - (intOf i).toNat)
  case atStart => exact ⟨0, A1, c1, _, Nat.zero_le _, rfl, rfl, by simp [Hid], by simpa [Hid] using HO.out, HB.out⟩
  case round =>
    obtain ⟨k, A2, c2, m, hk, rfl, rfl, hm, HO, hB⟩ := hrel
    have HB := Lib.hid hB
    clear hB
    by_cases hlt : k < l.length
    · obtain ⟨b, off, rfl, hb, hc⟩ := HS.out.2.2 (by omega)
      have g0 := (HB.out.cell (p := ⟨b, off + k * 4 + 0, none⟩) hb).trans (hc k hlt 0 _ rfl)
      have g1 := (HB.out.cell (p := ⟨b, off + k * 4 + 1, none⟩) hb).trans (hc k hlt 1 _ rfl)
      have g2 := (HB.out.cell (p := ⟨b, off + k * 4 + 2, none⟩) hb).trans (hc k hlt 2 _ rfl)
      have g3 := (HB.out.cell (p := ⟨b, off + k * 4 + 3, none⟩) hb).trans (hc k hlt 3 _ rfl)
      simp only [Nat.add_zero] at g0
      clear hc HS
      have hmem := List.getElem_mem hlt
      have HC := Lib.hid (HC.out _ hmem)
      have HM1 := HM1.out _ hmem
      have HT1 := Lib.hid (Tb.take_flat Tb.putVal l k hlt (Leb.putU l.length))
      have HLX := Lib.hid (Tb.putVal_lt l[k])
      have HMk := HM.out k hk
      clear hmem
      obtain ⟨x, hx⟩ : ∃ x, x = l[k] := ⟨_, rfl⟩
      rw [← hx] at g0 g1 g2 g3 HC HM1 HT1 HLX
      clear hx
      generalize Leb.putU l.length ++ (l.take k).flatMap Tb.putVal = pre at HO hm HMk HT1
      have HMK := Lib.hid HMk
      have HX := Lib.hid HM1
      clear HMk HM1
      go_wp2_with (first
        | ((with_reducible refine (HC.out _ (HB.out.alloc HB.out.size _)).mono ?_); rintro e w2 ⟨v2, rfl, ho, hb⟩; obtain ⟨A3, c3, rfl, hy, -⟩ := ho.bs HLX.out; have HO2 := Lib.hid ((HO.out.alloc _).below hb); have HB2 := Lib.hid ((HB.out.alloc HB.out.size _).trans (hb.mono (HB.out.alloc HB.out.size _).size)); have HY := Lib.hid hy; clear ho hb hy)
        | (at_builtin; refine cat_slice rfl _ _ rfl _ (Tb.putVal x) (Tb.putVal x).length rfl rfl HO2.out HY.out HB2.out.size (pre.length + (Tb.putVal x).length) (by have := HMK.out; have := HX.out; omega) rfl ?_; intro A5 c5 w5 ho2 hg2; have HO5 := Lib.hid ho2; have HB5 := Lib.hid (HO2.out.grown hg2 (Nat.le_refl _) HB2.out.size HB2.out); clear ho2 hg2))
      go_roundw
      case rel => exact ⟨k + 1, A5, c5, _, by omega, by go_num, rfl, by rw [Hid, ← HT1.out, List.length_append], by rw [Hid, ← HT1.out]; exact HO5.out, HB5.out⟩
      case measure => simp [intOf]; omega
    · have hkn : k = l.length := by omega
      clear HS
      go_wp2
      rw [HQ.out]
      refine ⟨_, rfl, ?_, HB.out⟩
      have h := HO.out
      rw [hkn, List.take_length] at h
      exact h
set_option maxHeartbeats 4000000 in
theorem putList_f (l : List Fd) (A : Option Addr) (c : Nat) (w : World) (hT : Tab6 w) (hl : l.length ≤ 10000) (hp : ∀ x ∈ l, Kd.pField x = true) (hs : Seg 6 Fd.cs w w.heap.size A c l) :
    Calls Tryd.prog 156 #[.slice A l.length c, .func (.func 157) #[] #[]] w (Made (Tb.putList Tb.putField l) w) := by
  obtain ⟨Q, hQ⟩ : ∃ Q : Ending → World → Prop, Q = Made (Tb.putList Tb.putField l) w := ⟨_, rfl⟩
  rw [← hQ]
  have HQ := Lib.hid hQ
  have HS := Lib.hid hs
  have HC : Hid (∀ x ∈ l, ∀ W, Below w.heap.size w W → Calls Tryd.prog 157 #[x.val] W (Made (Tb.putField x) W)) := Lib.hid fun x hx W hW => putField_any x (hp x hx) W (hT.below hW)
  have HM : Hid (∀ k, k ≤ l.length → (Leb.putU l.length ++ (l.take k).flatMap Tb.putField).length ≤ 120010) := Lib.hid fun k hk => by
    have h1 := Tb.flat_len Tb.putField 12 (l.take k) fun x hx => Nat.le_trans (Tb.putField_len (hp x (List.mem_of_mem_take hx))) (by omega)
    have h2 := Leb.putU_len10 l.length (by omega)
    rw [List.length_take] at h1
    rw [List.length_append]
    omega
  have HM1 : Hid (∀ x ∈ l, (Tb.putField x).length ≤ 12) := Lib.hid fun x hx => Nat.le_trans (Tb.putField_len (hp x hx)) (by omega)
  have HP : Hid (∀ W, Calls Tryd.prog 126 #[.int .u64 (l.length : Int)] W fun e w' => ∃ v, e = .returned v ∧ Own W.heap.size w' v (Leb.putU l.length) ∧ Below W.heap.size W w') := Lib.hid fun W => PutU_any l.length W (by omega)
  have hw : IntKind.u64.wrap (l.length : Int) = (l.length : Int) := IntWalk.u64_in _ (by omega)
  clear hT hp hs hQ
  go_enter Tryd.func156, Tryd.ntmps156
  go_wp2_with ((with_reducible refine (HP.out _).mono ?_); rintro e w1 ⟨v1, rfl, ho, hb⟩; obtain ⟨A1, c1, rfl, -, ho2⟩ := ho.bs (Leb.putU_lt _); have HO := Lib.hid ho2; have HB := Lib.hid hb; clear ho hb ho2)
  clear hw HP
  go_loopw [5, 14] (fun out i wr => ∃ (k : Nat) (A2 : Option Addr) (c2 m : Nat), k ≤ l.length ∧ i = .int .i64 (k : Int) ∧ out = .slice A2 m c2 ∧ Hid (m = (Leb.putU l.length ++ (l.take k).flatMap Tb.putField).length) ∧ Hid (Own w.heap.size wr (.slice A2 m c2) (Leb.putU l.length ++ (l.take k).flatMap Tb.putField)) ∧ Below w.heap.size w wr) (fun _ i _ => l.length - (intOf i).toNat)
  case atStart => exact ⟨0, A1, c1, _, Nat.zero_le _, rfl, rfl, by simp [Hid], by simpa [Hid] using HO.out, HB.out⟩
  case round =>
    obtain ⟨k, A2, c2, m, hk, rfl, rfl, hm, HO, hB⟩ := hrel
    have HB := Lib.hid hB
    clear hB
    by_cases hlt : k < l.length
    · obtain ⟨b, off, rfl, hb, hc⟩ := HS.out.2.2 (by omega)
      have g0 := (HB.out.cell (p := ⟨b, off + k * 6 + 0, none⟩) hb).trans (hc k hlt 0 _ rfl)
      have g1 := (HB.out.cell (p := ⟨b, off + k * 6 + 1, none⟩) hb).trans (hc k hlt 1 _ rfl)
      have g2 := (HB.out.cell (p := ⟨b, off + k * 6 + 2, none⟩) hb).trans (hc k hlt 2 _ rfl)
      have g3 := (HB.out.cell (p := ⟨b, off + k * 6 + 3, none⟩) hb).trans (hc k hlt 3 _ rfl)
      have g4 := (HB.out.cell (p := ⟨b, off + k * 6 + 4, none⟩) hb).trans (hc k hlt 4 _ rfl)
      have g5 := (HB.out.cell (p := ⟨b, off + k * 6 + 5, none⟩) hb).trans (hc k hlt 5 _ rfl)
      simp only [Nat.add_zero] at g0
      clear hc HS
      have hmem := List.getElem_mem hlt
      have HC := Lib.hid (HC.out _ hmem)
      have HM1 := HM1.out _ hmem
      have HT1 := Lib.hid (Tb.take_flat Tb.putField l k hlt (Leb.putU l.length))
      have HLX := Lib.hid (Tb.putField_lt l[k])
      have HMk := HM.out k hk
      clear hmem
      obtain ⟨x, hx⟩ : ∃ x, x = l[k] := ⟨_, rfl⟩
      rw [← hx] at g0 g1 g2 g3 g4 g5 HC HM1 HT1 HLX
      clear hx
      generalize Leb.putU l.length ++ (l.take k).flatMap Tb.putField = pre at HO hm HMk HT1
      have HMK := Lib.hid HMk
      have HX := Lib.hid HM1
      clear HMk HM1
      go_wp2_with (first
        | ((with_reducible refine (HC.out _ (HB.out.alloc HB.out.size _)).mono ?_); rintro e w2 ⟨v2, rfl, ho, hb⟩; obtain ⟨A3, c3, rfl, hy, -⟩ := ho.bs HLX.out; have HO2 := Lib.hid ((HO.out.alloc _).below hb); have HB2 := Lib.hid ((HB.out.alloc HB.out.size _).trans (hb.mono (HB.out.alloc HB.out.size _).size)); have HY := Lib.hid hy; clear ho hb hy)
        | (at_builtin; refine cat_slice rfl _ _ rfl _ (Tb.putField x) (Tb.putField x).length rfl rfl HO2.out HY.out HB2.out.size (pre.length + (Tb.putField x).length) (by have := HMK.out; have := HX.out; omega) rfl ?_; intro A5 c5 w5 ho2 hg2; have HO5 := Lib.hid ho2; have HB5 := Lib.hid (HO2.out.grown hg2 (Nat.le_refl _) HB2.out.size HB2.out); clear ho2 hg2))
      go_roundw
      case rel => exact ⟨k + 1, A5, c5, _, by omega, by go_num, rfl, by rw [Hid, ← HT1.out, List.length_append], by rw [Hid, ← HT1.out]; exact HO5.out, HB5.out⟩
      case measure => simp [intOf]; omega
    · have hkn : k = l.length := by omega
      clear HS
      go_wp2
      rw [HQ.out]
      refine ⟨_, rfl, ?_, HB.out⟩
      have h := HO.out
      rw [hkn, List.take_length] at h
      exact h
end Go.Proofs.YtkdhjejchdcipaaDoor
/-
  Layer 4, code: whether heap types, value types, fields are plain; first values; what is more than a statement looks at.
-/
namespace Go.Proofs.YtkdhjejchdcipaaDoor
open Go.RowKit
set_option linter.unusedVariables false
set_option maxRecDepth 100000

theorem kGiven_any (k : Int) (w : World) :
    Calls Tryd.prog 136 #[.int .i64 k] w fun e w' => e = .returned (.bool (Kd.given k)) ∧ w = w' := by
  unfold Kd.given
  by_cases h : 1 ≤ k
  all_goals
    go_enter Tryd.func136, Tryd.ntmps136
    go_wp2
    go_ret
    exact ⟨ret_bool (by simp [h]; try omega), rfl⟩
theorem pIdx_any (h : Hp) (w : World) :
    Calls Tryd.prog 101 #[h.val] w fun e w' => e = .returned (.bool (Kd.pIdx h)) ∧ Below w.heap.size w w' := by
  obtain ⟨k, n⟩ := h
  unfold Hp.val Kd.pIdx
  dsimp only
  by_cases h : k = 13
  · subst h
    by_cases h0 : 0 ≤ n
    all_goals
      go_enter Tryd.func101, Tryd.ntmps101
      go_wp2
      go_ret
      exact ⟨ret_bool (by simp [h0]; try omega), (Below.refl _ _).alloc (Nat.le_refl _) _⟩
  · go_enter Tryd.func101, Tryd.ntmps101
    go_wp2
    go_ret
    exact ⟨ret_bool (by simp [h]), (Below.refl _ _).alloc (Nat.le_refl _) _⟩
theorem pHeap_any (h : Hp) (w : World) :
    Calls Tryd.prog 127 #[h.val] w fun e w' => e = .returned (.bool (Kd.pHeap h)) ∧ Below w.heap.size w w' := by
  obtain ⟨k, n⟩ := h
  unfold Hp.val Kd.pHeap
  dsimp only
  cases hg : Kd.given k
  · go_enter Tryd.func127, Tryd.ntmps127
    go_wp2_with (first | (go_at_call 136; refine (kGiven_any _ _).mono ?_; rw [hg]; rintro e w' ⟨rfl, rfl⟩) | (go_at_call 101; refine (pIdx_any ⟨k, n⟩ _).mono ?_; rintro e w' ⟨rfl, hb⟩))
    go_ret
    exact ⟨ret_bool rfl, below_trans ((Below.refl _ _).alloc (Nat.le_refl _) _) hb⟩
  · go_enter Tryd.func127, Tryd.ntmps127
    go_wp2_with (go_at_call 136; refine (kGiven_any _ _).mono ?_; rw [hg]; rintro e w' ⟨rfl, rfl⟩)
    go_ret
    exact ⟨rfl, (Below.refl _ _).alloc (Nat.le_refl _) _⟩
theorem pVal_any (v : Vl) (w : World) :
    Calls Tryd.prog 98 #[v.val] w fun e w' => e = .returned (.bool (Kd.pVal v)) ∧ Below w.heap.size w w' := by
  obtain ⟨r, hr⟩ : ∃ r, Kd.pVal v = r := ⟨_, rfl⟩
  rw [hr]
  have hr := Lib.hid hr
  obtain ⟨k, nu, hk, hn⟩ := v
  unfold Vl.val
  dsimp only
  by_cases h1 : k = 1
  · subst h1
    go_enter Tryd.func98, Tryd.ntmps98
    go_wp2
    all_goals
      go_ret
      exact ⟨ret_bool (by rw [← hr.out]; simp_all [Kd.pVal]), (Below.refl _ _).alloc (Nat.le_refl _) _⟩
  · by_cases h2 : k = 2
    · subst h2
      go_enter Tryd.func98, Tryd.ntmps98
      go_wp2
      all_goals
        go_ret
        exact ⟨ret_bool (by rw [← hr.out]; simp_all [Kd.pVal]), (Below.refl _ _).alloc (Nat.le_refl _) _⟩
    · by_cases h3 : k = 3
      · subst h3
        go_enter Tryd.func98, Tryd.ntmps98
        go_wp2_with (go_at_call 127; refine (pHeap_any ⟨hk, hn⟩ _).mono ?_; rintro e w' ⟨rfl, hb⟩)
        go_ret
        exact ⟨ret_bool (by rw [← hr.out]; simp [Kd.pVal]), below_trans ((Below.refl _ _).alloc (Nat.le_refl _) _) hb⟩
      · go_enter Tryd.func98, Tryd.ntmps98
        go_wp2
        go_ret
        exact ⟨ret_bool (by rw [← hr.out]; simp [Kd.pVal, h1, h2, h3]), (Below.refl _ _).alloc (Nat.le_refl _) _⟩
theorem first_any (v : Vl) (w : World) :
    Calls Tryd.prog 58 #[v.val] w fun e w' => e = .returned (.bool (Kd.first v)) ∧ Below w.heap.size w w' := by
  obtain ⟨r, hr⟩ : ∃ r, Kd.first v = r := ⟨_, rfl⟩
  rw [hr]
  have hr := Lib.hid hr
  obtain ⟨k, nu, hk, hn⟩ := v
  unfold Vl.val
  dsimp only
  by_cases h1 : k = 1
  · subst h1
    go_enter Tryd.func58, Tryd.ntmps58
    go_wp2
    go_ret
    exact ⟨ret_bool (by rw [← hr.out]; simp_all [Kd.first]), (Below.refl _ _).alloc (Nat.le_refl _) _⟩
  · by_cases h2 : k = 2
    · subst h2
      go_enter Tryd.func58, Tryd.ntmps58
      go_wp2
      go_ret
      exact ⟨ret_bool (by rw [← hr.out]; simp_all [Kd.first]), (Below.refl _ _).alloc (Nat.le_refl _) _⟩
    · by_cases h3 : k = 3
      all_goals
        go_enter Tryd.func58, Tryd.ntmps58
        go_wp2
        go_ret
        exact ⟨ret_bool (by rw [← hr.out]; simp [Kd.first, h1, h2, h3]), (Below.refl _ _).alloc (Nat.le_refl _) _⟩
theorem pField_any (f : Fd) (w : World) :
    Calls Tryd.prog 134 #[f.val] w fun e w' => e = .returned (.bool (Kd.pField f)) ∧ Below w.heap.size w w' := by
  obtain ⟨r, hr⟩ : ∃ r, Kd.pField f = r := ⟨_, rfl⟩
  rw [hr]
  have hr := Lib.hid hr
  obtain ⟨pk, ⟨k, nu, hk, hn⟩, mu⟩ := f
  unfold Fd.val
  dsimp only
  by_cases h1 : pk = 0
  · subst h1
    go_enter Tryd.func134, Tryd.ntmps134
    go_wp2_with (go_at_call 98; refine (pVal_any ⟨k, nu, hk, hn⟩ _).mono ?_; rintro e w' ⟨rfl, hb⟩)
    go_ret
    exact ⟨ret_bool (by rw [← hr.out]; simp [Kd.pField]), below_trans ((Below.refl _ _).alloc (Nat.le_refl _) _) hb⟩
  · by_cases h2 : pk = 8
    · subst h2
      go_enter Tryd.func134, Tryd.ntmps134
      go_wp2
      all_goals
        go_ret
        exact ⟨ret_bool (by rw [← hr.out]; simp_all [Kd.pField]), (Below.refl _ _).alloc (Nat.le_refl _) _⟩
    · by_cases h3 : pk = 16
      · subst h3
        go_enter Tryd.func134, Tryd.ntmps134
        go_wp2
        all_goals
          go_ret
          exact ⟨ret_bool (by rw [← hr.out]; simp_all [Kd.pField]), (Below.refl _ _).alloc (Nat.le_refl _) _⟩
      · go_enter Tryd.func134, Tryd.ntmps134
        go_wp2
        go_ret
        exact ⟨ret_bool (by rw [← hr.out]; simp [Kd.pField, h1, h2, h3]), (Below.refl _ _).alloc (Nat.le_refl _) _⟩
end Go.Proofs.YtkdhjejchdcipaaDoor
/-
  Layer 4, code: 'all' over a predicate of the package's own, at heap types, value types and fields.
-/
namespace Go.Proofs.YtkdhjejchdcipaaDoor
open Go.RowKit
set_option linter.unusedVariables false
set_option maxRecDepth 100000
theorem below_trans2 {w a b : World} (h : Below w.heap.size w a) (h2 : Below a.heap.size a b) : Below w.heap.size w b := h.trans (h2.mono h.size)

section
theorem ix_h (l : List Hp) (A : Option Addr) (c : Nat) (B : Nat) (q : Hp → Bool) (w : World) (hl : l.length ≤ 10000) (hs : Seg 2 Hp.cs w w.heap.size A c l)
    (hq : Hid (∀ x W, Below w.heap.size w W → Calls Tryd.prog 130 #[x.val, .pointer (some ⟨B, 0, none⟩)] W fun e W' => e = .returned (.bool (q x)) ∧ Below W.heap.size W W')) :
    Calls Tryd.prog 160 #[.slice A l.length c, .func (.func 130) #[] #[.pointer (some ⟨B, 0, none⟩)]] w fun e w' => (∃ i : Int, e = .returned (.int .i64 i) ∧ decide (0 ≤ i) = l.any q) ∧ Below w.heap.size w w' := by
  obtain ⟨Q, hQ⟩ : ∃ Q : Ending → World → Prop, Q = (fun e w' => (∃ i : Int, e = .returned (.int .i64 i) ∧ decide (0 ≤ i) = l.any q) ∧ Below w.heap.size w w') := ⟨_, rfl⟩
  rw [← hQ]
  have hQ' := Lib.hid hQ
  clear hQ
  go_enter Tryd.func160, Tryd.ntmps160
  go_wp2
  go_loopw [5, 8] (fun _ i wr => ∃ k : Nat, k ≤ l.length ∧ i = .int .i64 k ∧ Below w.heap.size w wr ∧ (l.take k).any q = false) (fun _ i _ => l.length - (intOf i).toNat)
  case atStart => exact ⟨0, Nat.zero_le _, rfl, Below.refl _ _, by simp⟩
  case round =>
    obtain ⟨k, hk, rfl, hB, hany⟩ := hrel
    have hany' := Lib.hid hany
    clear hany
    by_cases hlt : k < l.length
    · obtain ⟨b, off, rfl, hb, hc⟩ := hs.2.2 (by omega)
      have g0 := (hB.cell (p := ⟨b, off + k * 2 + 0, none⟩) hb).trans (hc k hlt 0 _ rfl)
      have g1 := (hB.cell (p := ⟨b, off + k * 2 + 1, none⟩) hb).trans (hc k hlt 1 _ rfl)
      simp only [Nat.add_zero] at g0
      clear hc hs
      have htk : Hid ((l.take (k + 1)).any q = q l[k]) := Lib.hid (by rw [List.take_succ_eq_append_getElem hlt, List.any_append, hany'.out]; simp)
      cases hqx : q l[k]
      · go_wp2_with (go_at_call 130; refine (hq.out l[k] _ hB).mono ?_; rw [hqx]; rintro e w1 ⟨rfl, hb1⟩)
        go_roundw
        case rel => exact ⟨k + 1, by omega, by go_num, below_trans2 hB hb1, by rw [htk.out]; exact hqx⟩
        case measure => simp [intOf]; omega
      · go_wp2_with (go_at_call 130; refine (hq.out l[k] _ hB).mono ?_; rw [hqx]; rintro e w1 ⟨rfl, hb1⟩)
        rw [hQ'.out]
        exact ⟨⟨_, rfl, by rw [List.any_eq_true.2 ⟨l[k], List.getElem_mem hlt, hqx⟩]; simp⟩, below_trans2 hB hb1⟩
    · clear hs
      go_wp2
      rw [hQ'.out]
      exact ⟨⟨-1, rfl, by rw [List.take_of_length_le (by omega)] at hany'; rw [hany'.out]; rfl⟩, hB⟩
theorem cf_h (l : List Hp) (A : Option Addr) (c : Nat) (B : Nat) (q : Hp → Bool) (w : World) (hl : l.length ≤ 10000) (hs : Seg 2 Hp.cs w w.heap.size A c l)
    (hq : Hid (∀ x W, Below w.heap.size w W → Calls Tryd.prog 130 #[x.val, .pointer (some ⟨B, 0, none⟩)] W fun e W' => e = .returned (.bool (q x)) ∧ Below W.heap.size W W')) :
    Calls Tryd.prog 129 #[.slice A l.length c, .func (.func 130) #[] #[.pointer (some ⟨B, 0, none⟩)]] w fun e w' => e = .returned (.bool (l.any q)) ∧ Below w.heap.size w w' := by
  have hs' := Lib.hid hs
  clear hs
  go_enter Tryd.func129, Tryd.ntmps129
  go_wp2_with (go_at_call 160; refine (ix_h l A c B q _ hl hs'.out hq).mono ?_; rintro e w1 ⟨⟨i, rfl, hi⟩, hb1⟩; have hi := Lib.hid hi)
  go_ret
  exact ⟨rfl, hb1⟩
theorem clo_h (x : Hp) (B : Nat) (w : World) (hB : w.cell? ⟨B, 0, none⟩ = some (.func (.func 101) #[] #[])) (hlt : B < w.heap.size) :
    Calls Tryd.prog 130 #[x.val, .pointer (some ⟨B, 0, none⟩)] w fun e w' => e = .returned (.bool (!Kd.pIdx x)) ∧ Below w.heap.size w w' := by
  unfold Hp.val
  go_enter Tryd.func130, Tryd.ntmps130
  go_wp2_with (go_at_call 101; refine (pIdx_any x _).mono ?_; rintro e w1 ⟨rfl, hb1⟩)
  go_ret
  exact ⟨rfl, below_trans ((Below.refl _ _).alloc (Nat.le_refl _) _) hb1⟩
theorem all_h (l : List Hp) (A : Option Addr) (c : Nat) (w : World) (hl : l.length ≤ 10000) (hs : Seg 2 Hp.cs w w.heap.size A c l) :
    Calls Tryd.prog 100 #[.slice A l.length c, .func (.func 101) #[] #[]] w fun e w' => e = .returned (.bool (l.all Kd.pIdx)) ∧ Below w.heap.size w w' := by
  have hs' := Lib.hid hs
  clear hs
  go_enter Tryd.func100, Tryd.ntmps100
  go_wp2_with fail
  refine (cf_h l A c w.heap.size (fun x => !Kd.pIdx x) _ hl ((hs'.out.below ((Below.refl _ _).alloc (Nat.le_refl _) _)).more (by simp))
    (Lib.hid fun x W hW => clo_h x w.heap.size W ((hW.cell (p := ⟨w.heap.size, 0, none⟩) (by simp)).trans (by simp)) (Nat.lt_of_lt_of_le (by simp) hW.size))).mono ?_
  rintro e w1 ⟨rfl, hb1⟩
  go_wp2
  go_ret
  exact ⟨ret_bool (by simp [List.any_eq_not_all_not]), below_trans ((Below.refl _ _).alloc (Nat.le_refl _) _) hb1⟩
end

section
theorem ix_v (l : List Vl) (A : Option Addr) (c : Nat) (B : Nat) (q : Vl → Bool) (w : World) (hl : l.length ≤ 10000) (hs : Seg 4 Vl.cs w w.heap.size A c l)
    (hq : Hid (∀ x W, Below w.heap.size w W → Calls Tryd.prog 162 #[x.val, .pointer (some ⟨B, 0, none⟩)] W fun e W' => e = .returned (.bool (q x)) ∧ Below W.heap.size W W')) :
    Calls Tryd.prog 178 #[.slice A l.length c, .func (.func 162) #[] #[.pointer (some ⟨B, 0, none⟩)]] w fun e w' => (∃ i : Int, e = .returned (.int .i64 i) ∧ decide (0 ≤ i) = l.any q) ∧ Below w.heap.size w w' := by
  obtain ⟨Q, hQ⟩ : ∃ Q : Ending → World → Prop, Q = (fun e w' => (∃ i : Int, e = .returned (.int .i64 i) ∧ decide (0 ≤ i) = l.any q) ∧ Below w.heap.size w w') := ⟨_, rfl⟩
  rw [← hQ]
  have hQ' := Lib.hid hQ
  clear hQ
  go_enter Tryd.func178, Tryd.ntmps178
  go_wp2
  go_loopw [5, 8] (fun _ i wr => ∃ k : Nat, k ≤ l.length ∧ i = .int .i64 k ∧ Below w.heap.size w wr ∧ (l.take k).any q = false) (fun _ i _ => l.length - (intOf i).toNat)
  case atStart => exact ⟨0, Nat.zero_le _, rfl, Below.refl _ _, by simp⟩
  case round =>
    obtain ⟨k, hk, rfl, hB, hany⟩ := hrel
    have hany' := Lib.hid hany
    clear hany
    by_cases hlt : k < l.length
    · obtain ⟨b, off, rfl, hb, hc⟩ := hs.2.2 (by omega)
      have g0 := (hB.cell (p := ⟨b, off + k * 4 + 0, none⟩) hb).trans (hc k hlt 0 _ rfl)
      have g1 := (hB.cell (p := ⟨b, off + k * 4 + 1, none⟩) hb).trans (hc k hlt 1 _ rfl)
      have g2 := (hB.cell (p := ⟨b, off + k * 4 + 2, none⟩) hb).trans (hc k hlt 2 _ rfl)
      have g3 := (hB.cell (p := ⟨b, off + k * 4 + 3, none⟩) hb).trans (hc k hlt 3 _ rfl)
      simp only [Nat.add_zero] at g0
      clear hc hs
      have htk : Hid ((l.take (k + 1)).any q = q l[k]) := Lib.hid (by rw [List.take_succ_eq_append_getElem hlt, List.any_append, hany'.out]; simp)
      cases hqx : q l[k]
      · go_wp2_with (go_at_call 162; refine (hq.out l[k] _ hB).mono ?_; rw [hqx]; rintro e w1 ⟨rfl, hb1⟩)
        go_roundw
        case rel => exact ⟨k + 1, by omega, by go_num, below_trans2 hB hb1, by rw [htk.out]; exact hqx⟩
        case measure => simp [intOf]; omega
      · go_wp2_with (go_at_call 162; refine (hq.out l[k] _ hB).mono ?_; rw [hqx]; rintro e w1 ⟨rfl, hb1⟩)
        rw [hQ'.out]
        exact ⟨⟨_, rfl, by rw [List.any_eq_true.2 ⟨l[k], List.getElem_mem hlt, hqx⟩]; simp⟩, below_trans2 hB hb1⟩
    · clear hs
      go_wp2
      rw [hQ'.out]
      exact ⟨⟨-1, rfl, by rw [List.take_of_length_le (by omega)] at hany'; rw [hany'.out]; rfl⟩, hB⟩
theorem cf_v (l : List Vl) (A : Option Addr) (c : Nat) (B : Nat) (q : Vl → Bool) (w : World) (hl : l.length ≤ 10000) (hs : Seg 4 Vl.cs w w.heap.size A c l)
    (hq : Hid (∀ x W, Below w.heap.size w W → Calls Tryd.prog 162 #[x.val, .pointer (some ⟨B, 0, none⟩)] W fun e W' => e = .returned (.bool (q x)) ∧ Below W.heap.size W W')) :
    Calls Tryd.prog 161 #[.slice A l.length c, .func (.func 162) #[] #[.pointer (some ⟨B, 0, none⟩)]] w fun e w' => e = .returned (.bool (l.any q)) ∧ Below w.heap.size w w' := by
  have hs' := Lib.hid hs
  clear hs
  go_enter Tryd.func161, Tryd.ntmps161
  go_wp2_with (go_at_call 178; refine (ix_v l A c B q _ hl hs'.out hq).mono ?_; rintro e w1 ⟨⟨i, rfl, hi⟩, hb1⟩; have hi := Lib.hid hi)
  go_ret
  exact ⟨rfl, hb1⟩
theorem clo_v (x : Vl) (B : Nat) (w : World) (hB : w.cell? ⟨B, 0, none⟩ = some (.func (.func 98) #[] #[])) (hlt : B < w.heap.size) :
    Calls Tryd.prog 162 #[x.val, .pointer (some ⟨B, 0, none⟩)] w fun e w' => e = .returned (.bool (!Kd.pVal x)) ∧ Below w.heap.size w w' := by
  unfold Vl.val
  go_enter Tryd.func162, Tryd.ntmps162
  go_wp2_with (go_at_call 98; refine (pVal_any x _).mono ?_; rintro e w1 ⟨rfl, hb1⟩)
  go_ret
  exact ⟨rfl, below_trans ((Below.refl _ _).alloc (Nat.le_refl _) _) hb1⟩
theorem all_v (l : List Vl) (A : Option Addr) (c : Nat) (w : World) (hl : l.length ≤ 10000) (hs : Seg 4 Vl.cs w w.heap.size A c l) :
    Calls Tryd.prog 131 #[.slice A l.length c, .func (.func 98) #[] #[]] w fun e w' => e = .returned (.bool (l.all Kd.pVal)) ∧ Below w.heap.size w w' := by
  have hs' := Lib.hid hs
  clear hs
  go_enter Tryd.func131, Tryd.ntmps131
  go_wp2_with fail
  refine (cf_v l A c w.heap.size (fun x => !Kd.pVal x) _ hl ((hs'.out.below ((Below.refl _ _).alloc (Nat.le_refl _) _)).more (by simp))
    (Lib.hid fun x W hW => clo_v x w.heap.size W ((hW.cell (p := ⟨w.heap.size, 0, none⟩) (by simp)).trans (by simp)) (Nat.lt_of_lt_of_le (by simp) hW.size))).mono ?_
  rintro e w1 ⟨rfl, hb1⟩
  go_wp2
  go_ret
  exact ⟨ret_bool (by simp [List.any_eq_not_all_not]), below_trans ((Below.refl _ _).alloc (Nat.le_refl _) _) hb1⟩
end

section
theorem ix_f (l : List Fd) (A : Option Addr) (c : Nat) (B : Nat) (q : Fd → Bool) (w : World) (hl : l.length ≤ 10000) (hs : Seg 6 Fd.cs w w.heap.size A c l)
    (hq : Hid (∀ x W, Below w.heap.size w W → Calls Tryd.prog 164 #[x.val, .pointer (some ⟨B, 0, none⟩)] W fun e W' => e = .returned (.bool (q x)) ∧ Below W.heap.size W W')) :
    Calls Tryd.prog 179 #[.slice A l.length c, .func (.func 164) #[] #[.pointer (some ⟨B, 0, none⟩)]] w fun e w' => (∃ i : Int, e = .returned (.int .i64 i) ∧ decide (0 ≤ i) = l.any q) ∧ Below w.heap.size w w' := by
  obtain ⟨Q, hQ⟩ : ∃ Q : Ending → World → Prop, Q = (fun e w' => (∃ i : Int, e = .returned (.int .i64 i) ∧ decide (0 ≤ i) = l.any q) ∧ Below w.heap.size w w') := ⟨_, rfl⟩
  rw [← hQ]
  have hQ' := Lib.hid hQ
  clear hQ
  go_enter Tryd.func179, Tryd.ntmps179
  go_wp2
  go_loopw [5, 8] (fun _ i wr => ∃ k : Nat, k ≤ l.length ∧ i = .int .i64 k ∧ Below w.heap.size w wr ∧ (l.take k).any q = false) (fun _ i _ => l.length - (intOf i).toNat)
  case atStart => exact ⟨0, Nat.zero_le _, rfl, Below.refl _ _, by simp⟩
  case round =>
    obtain ⟨k, hk, rfl, hB, hany⟩ := hrel
    have hany' := Lib.hid hany
    clear hany
    by_cases hlt : k < l.length
    · obtain ⟨b, off, rfl, hb, hc⟩ := hs.2.2 (by omega)
      have g0 := (hB.cell (p := ⟨b, off + k * 6 + 0, none⟩) hb).trans (hc k hlt 0 _ rfl)
      have g1 := (hB.cell (p := ⟨b, off + k * 6 + 1, none⟩) hb).trans (hc k hlt 1 _ rfl)
      have g2 := (hB.cell (p := ⟨b, off + k * 6 + 2, none⟩) hb).trans (hc k hlt 2 _ rfl)
      have g3 := (hB.cell (p := ⟨b, off + k * 6 + 3, none⟩) hb).trans (hc k hlt 3 _ rfl)
      have g4 := (hB.cell (p := ⟨b, off + k * 6 + 4, none⟩) hb).trans (hc k hlt 4 _ rfl)
      have g5 := (hB.cell (p := ⟨b, off + k * 6 + 5, none⟩) hb).trans (hc k hlt 5 _ rfl)
      simp only [Nat.add_zero] at g0
      clear hc hs
      have htk : Hid ((l.take (k + 1)).any q = q l[k]) := Lib.hid (by rw [List.take_succ_eq_append_getElem hlt, List.any_append, hany'.out]; simp)
      cases hqx : q l[k]
      · go_wp2_with (go_at_call 164; refine (hq.out l[k] _ hB).mono ?_; rw [hqx]; rintro e w1 ⟨rfl, hb1⟩)
        go_roundw
        case rel => exact ⟨k + 1, by omega, by go_num, below_trans2 hB hb1, by rw [htk.out]; exact hqx⟩
        case measure => simp [intOf]; omega
      · go_wp2_with (go_at_call 164; refine (hq.out l[k] _ hB).mono ?_; rw [hqx]; rintro e w1 ⟨rfl, hb1⟩)
        rw [hQ'.out]
        exact ⟨⟨_, rfl, by rw [List.any_eq_true.2 ⟨l[k], List.getElem_mem hlt, hqx⟩]; simp⟩, below_trans2 hB hb1⟩
    · clear hs
      go_wp2
      rw [hQ'.out]
      exact ⟨⟨-1, rfl, by rw [List.take_of_length_le (by omega)] at hany'; rw [hany'.out]; rfl⟩, hB⟩
theorem cf_f (l : List Fd) (A : Option Addr) (c : Nat) (B : Nat) (q : Fd → Bool) (w : World) (hl : l.length ≤ 10000) (hs : Seg 6 Fd.cs w w.heap.size A c l)
    (hq : Hid (∀ x W, Below w.heap.size w W → Calls Tryd.prog 164 #[x.val, .pointer (some ⟨B, 0, none⟩)] W fun e W' => e = .returned (.bool (q x)) ∧ Below W.heap.size W W')) :
    Calls Tryd.prog 163 #[.slice A l.length c, .func (.func 164) #[] #[.pointer (some ⟨B, 0, none⟩)]] w fun e w' => e = .returned (.bool (l.any q)) ∧ Below w.heap.size w w' := by
  have hs' := Lib.hid hs
  clear hs
  go_enter Tryd.func163, Tryd.ntmps163
  go_wp2_with (go_at_call 179; refine (ix_f l A c B q _ hl hs'.out hq).mono ?_; rintro e w1 ⟨⟨i, rfl, hi⟩, hb1⟩; have hi := Lib.hid hi)
  go_ret
  exact ⟨rfl, hb1⟩
theorem clo_f (x : Fd) (B : Nat) (w : World) (hB : w.cell? ⟨B, 0, none⟩ = some (.func (.func 134) #[] #[])) (hlt : B < w.heap.size) :
    Calls Tryd.prog 164 #[x.val, .pointer (some ⟨B, 0, none⟩)] w fun e w' => e = .returned (.bool (!Kd.pField x)) ∧ Below w.heap.size w w' := by
  unfold Fd.val
  go_enter Tryd.func164, Tryd.ntmps164
  go_wp2_with (go_at_call 134; refine (pField_any x _).mono ?_; rintro e w1 ⟨rfl, hb1⟩)
  go_ret
  exact ⟨rfl, below_trans ((Below.refl _ _).alloc (Nat.le_refl _) _) hb1⟩
theorem all_f (l : List Fd) (A : Option Addr) (c : Nat) (w : World) (hl : l.length ≤ 10000) (hs : Seg 6 Fd.cs w w.heap.size A c l) :
    Calls Tryd.prog 133 #[.slice A l.length c, .func (.func 134) #[] #[]] w fun e w' => e = .returned (.bool (l.all Kd.pField)) ∧ Below w.heap.size w w' := by
  have hs' := Lib.hid hs
  clear hs
  go_enter Tryd.func133, Tryd.ntmps133
  go_wp2_with fail
  refine (cf_f l A c w.heap.size (fun x => !Kd.pField x) _ hl ((hs'.out.below ((Below.refl _ _).alloc (Nat.le_refl _) _)).more (by simp))
    (Lib.hid fun x W hW => clo_f x w.heap.size W ((hW.cell (p := ⟨w.heap.size, 0, none⟩) (by simp)).trans (by simp)) (Nat.lt_of_lt_of_le (by simp) hW.size))).mono ?_
  rintro e w1 ⟨rfl, hb1⟩
  go_wp2
  go_ret
  exact ⟨ret_bool (by simp [List.any_eq_not_all_not]), below_trans ((Below.refl _ _).alloc (Nat.le_refl _) _) hb1⟩
end
end Go.Proofs.YtkdhjejchdcipaaDoor
/-
  Layer 4, code: slices.Equal at heap types, value types and fields.
-/
namespace Go.Proofs.YtkdhjejchdcipaaDoor
open Go.RowKit
set_option linter.unusedVariables false
set_option maxRecDepth 100000

theorem run_neqH (x y : Hp) (w : World) : (binOp .neq 39 x.val y.val).run Tryd.prog w = .ok (.bool (!decide (x = y))) w := by
  obtain ⟨a, b⟩ := x
  obtain ⟨a', b'⟩ := y
  unfold Hp.val
  by_cases h1 : a = a' <;> by_cases h2 : b = b' <;> go_simp <;> simp_all
theorem run_neqV (x y : Vl) (w : World) : (binOp .neq 46 x.val y.val).run Tryd.prog w = .ok (.bool (!decide (x = y))) w := by
  obtain ⟨a, b, c, d⟩ := x
  obtain ⟨a', b', c', d'⟩ := y
  unfold Vl.val
  by_cases h1 : a = a' <;> by_cases h2 : b = b' <;> by_cases h3 : c = c' <;> by_cases h4 : d = d' <;> go_simp <;> simp_all
theorem run_neqF (x y : Fd) (w : World) : (binOp .neq 50 x.val y.val).run Tryd.prog w = .ok (.bool (!decide (x = y))) w := by
  obtain ⟨p, ⟨a, b, c, d⟩, m⟩ := x
  obtain ⟨p', ⟨a', b', c', d'⟩, m'⟩ := y
  unfold Fd.val
  by_cases h0 : p = p'
  · by_cases h1 : a = a'
    · by_cases h2 : b = b' <;> by_cases h3 : c = c' <;> by_cases h4 : d = d' <;> by_cases h5 : m = m' <;> go_simp <;> simp_all
    · go_simp <;> simp_all
  · go_simp <;> simp_all

theorem eq_h (l m : List Hp) (A A' : Option Addr) (c c' : Nat) (w : World) (hl : l.length ≤ 10000) (hm : m.length ≤ 10000) (C : Nat) (hs : Seg 2 Hp.cs w C A c l) (hs' : Seg 2 Hp.cs w C A' c' m) :
    Calls Tryd.prog 62 #[.slice A l.length c, .slice A' m.length c'] w fun e w' => e = .returned (.bool (decide (l = m))) ∧ ∃ n, w' = w.drewN n := by
  obtain ⟨r, hr⟩ : ∃ r, decide (l = m) = r := ⟨_, rfl⟩
  rw [hr]
  have hr' := Lib.hid hr
  clear hr
  by_cases hlen : l.length = m.length
  · have hbm : Hid (((m.length : Int) != (m.length : Int)) = false) := Lib.hid (by simp)
    have e0 := hlen
    rw [hlen]
    have hlen' := Lib.hid e0
    clear e0 hlen
    go_enter Tryd.func62, Tryd.ntmps62
    go_wp2
    go_loopw [5, 13] (fun _ i wr => ∃ k : Nat, k ≤ m.length ∧ i = .int .i64 k ∧ (∃ n, wr = w.drewN n) ∧ l.take k = m.take k) (fun _ i _ => m.length - (intOf i).toNat)
    case atStart => exact ⟨0, Nat.zero_le _, rfl, ⟨0, rfl⟩, by simp⟩
    case round =>
      obtain ⟨k, hk, rfl, ⟨n, rfl⟩, htk⟩ := hrel
      have htk' := Lib.hid htk
      clear htk
      by_cases hlt : k < m.length
      · have hltl : Hid (k < l.length) := Lib.hid (by rw [hlen'.out]; exact hlt)
        obtain ⟨b, off, rfl, hb, hc⟩ := hs.2.2 (by have := hltl.out; omega)
        obtain ⟨b', off', rfl, hb', hc'⟩ := hs'.2.2 (by omega)
        obtain ⟨x, hx⟩ : ∃ x, x = l[k]'hltl.out := ⟨_, rfl⟩
        obtain ⟨y, hy⟩ : ∃ y, y = m[k] := ⟨_, rfl⟩
        have g0 := hc k hltl.out 0 _ rfl
        have g1 := hc k hltl.out 1 _ rfl
        have h0 := hc' k hlt 0 _ rfl
        have h1 := hc' k hlt 1 _ rfl
        rw [← hx] at g0 g1
        rw [← hy] at h0 h1
        have hx' := Lib.hid hx
        have hy' := Lib.hid hy
        clear hx hy
        simp only [Nat.add_zero] at g0 h0
        clear hc hs hc' hs'
        have i0 : (0 : Int) ≤ k := by omega
        have i1 : (k : Int) < m.length := by omega
        cases hxy : decide (x = y)
        · have hne := fun w => run_neqH x y w
          rw [hxy] at hne
          unfold Hp.val at hne
          have hxy' := Lib.hid hxy
          clear hxy
          go_wp2
          go_quiet (fail)
          go_wp2
          go_ret
          refine ⟨ret_bool ?_, _, World.drewN_drewN _ _ _⟩
          rw [← hr'.out]
          refine (decide_eq_false fun e => ?_).symm
          subst e
          exact absurd (hx'.out.trans hy'.out.symm) (of_decide_eq_false hxy'.out)
        · have hxy := of_decide_eq_true hxy
          have hsx : Hid (l.take (k + 1) = m.take (k + 1)) := Lib.hid (by
            rw [List.take_succ_eq_append_getElem hltl.out, List.take_succ_eq_append_getElem hlt, htk'.out, ← hx'.out, ← hy'.out, hxy])
          clear hx' hy' htk'
          subst hxy
          have hne := fun w => run_neqH x x w
          rw [decide_eq_true rfl] at hne
          unfold Hp.val at hne
          go_wp2
          go_quiet (fail)
          go_wp2
          go_roundw
          case rel => exact ⟨k + 1, by omega, by go_num, ⟨_, rfl⟩, hsx.out⟩
          case measure => simp [intOf]; omega
      · clear hs hs'
        go_wp2
        go_ret
        refine ⟨ret_bool ?_, _, rfl⟩
        rw [← hr'.out]
        refine (decide_eq_true ?_).symm
        have h := htk'.out
        rwa [List.take_of_length_le (by have := hlen'.out; omega), List.take_of_length_le (by omega)] at h
  · have hbm : ((l.length : Int) != (m.length : Int)) = true := by simp; omega
    go_enter Tryd.func62, Tryd.ntmps62
    go_wp2
    go_ret
    refine ⟨ret_bool ?_, 0, rfl⟩
    rw [← hr'.out]
    refine (decide_eq_false fun e => ?_).symm
    exact hlen (by rw [e])

theorem eq_v (l m : List Vl) (A A' : Option Addr) (c c' : Nat) (w : World) (hl : l.length ≤ 10000) (hm : m.length ≤ 10000) (C : Nat) (hs : Seg 4 Vl.cs w C A c l) (hs' : Seg 4 Vl.cs w C A' c' m) :
    Calls Tryd.prog 143 #[.slice A l.length c, .slice A' m.length c'] w fun e w' => e = .returned (.bool (decide (l = m))) ∧ ∃ n, w' = w.drewN n := by
  obtain ⟨r, hr⟩ : ∃ r, decide (l = m) = r := ⟨_, rfl⟩
  rw [hr]
  have hr' := Lib.hid hr
  clear hr
  by_cases hlen : l.length = m.length
  · have hbm : Hid (((m.length : Int) != (m.length : Int)) = false) := Lib.hid (by simp)
    have e0 := hlen
    rw [hlen]
    have hlen' := Lib.hid e0
    clear e0 hlen
    go_enter Tryd.func143, Tryd.ntmps143
    go_wp2
    go_loopw [5, 13] (fun _ i wr => ∃ k : Nat, k ≤ m.length ∧ i = .int .i64 k ∧ (∃ n, wr = w.drewN n) ∧ l.take k = m.take k) (fun _ i _ => m.length - (intOf i).toNat)
    case atStart => exact ⟨0, Nat.zero_le _, rfl, ⟨0, rfl⟩, by simp⟩
    case round =>
      obtain ⟨k, hk, rfl, ⟨n, rfl⟩, htk⟩ := hrel
      have htk' := Lib.hid htk
      clear htk
      by_cases hlt : k < m.length
      · have hltl : Hid (k < l.length) := Lib.hid (by rw [hlen'.out]; exact hlt)
        obtain ⟨b, off, rfl, hb, hc⟩ := hs.2.2 (by have := hltl.out; omega)
        obtain ⟨b', off', rfl, hb', hc'⟩ := hs'.2.2 (by omega)
        obtain ⟨x, hx⟩ : ∃ x, x = l[k]'hltl.out := ⟨_, rfl⟩
        obtain ⟨y, hy⟩ : ∃ y, y = m[k] := ⟨_, rfl⟩
        have g0 := hc k hltl.out 0 _ rfl
        have g1 := hc k hltl.out 1 _ rfl
        have g2 := hc k hltl.out 2 _ rfl
        have g3 := hc k hltl.out 3 _ rfl
        have h0 := hc' k hlt 0 _ rfl
        have h1 := hc' k hlt 1 _ rfl
        have h2 := hc' k hlt 2 _ rfl
        have h3 := hc' k hlt 3 _ rfl
        rw [← hx] at g0 g1 g2 g3
        rw [← hy] at h0 h1 h2 h3
        have hx' := Lib.hid hx
        have hy' := Lib.hid hy
        clear hx hy
        simp only [Nat.add_zero] at g0 h0
        clear hc hs hc' hs'
        have i0 : (0 : Int) ≤ k := by omega
        have i1 : (k : Int) < m.length := by omega
        cases hxy : decide (x = y)
        · have hne := fun w => run_neqV x y w
          rw [hxy] at hne
          unfold Vl.val at hne
          have hxy' := Lib.hid hxy
          clear hxy
          go_wp2
          go_quiet (fail)
          go_wp2
          go_ret
          refine ⟨ret_bool ?_, _, World.drewN_drewN _ _ _⟩
          rw [← hr'.out]
          refine (decide_eq_false fun e => ?_).symm
          subst e
          exact absurd (hx'.out.trans hy'.out.symm) (of_decide_eq_false hxy'.out)
        · have hxy := of_decide_eq_true hxy
          have hsx : Hid (l.take (k + 1) = m.take (k + 1)) := Lib.hid (by
            rw [List.take_succ_eq_append_getElem hltl.out, List.take_succ_eq_append_getElem hlt, htk'.out, ← hx'.out, ← hy'.out, hxy])
          clear hx' hy' htk'
          subst hxy
          have hne := fun w => run_neqV x x w
          rw [decide_eq_true rfl] at hne
          unfold Vl.val at hne
          go_wp2
          go_quiet (fail)
          go_wp2
          go_roundw
          case rel => exact ⟨k + 1, by omega, by go_num, ⟨_, rfl⟩, hsx.out⟩
          case measure => simp [intOf]; omega
      · clear hs hs'
        go_wp2
        go_ret
        refine ⟨ret_bool ?_, _, rfl⟩
        rw [← hr'.out]
        refine (decide_eq_true ?_).symm
        have h := htk'.out
        rwa [List.take_of_length_le (by have := hlen'.out; omega), List.take_of_length_le (by omega)] at h
  · have hbm : ((l.length : Int) != (m.length : Int)) = true := by simp; omega
    go_enter Tryd.func143, Tryd.ntmps143
    go_wp2
    go_ret
    refine ⟨ret_bool ?_, 0, rfl⟩
    rw [← hr'.out]
    refine (decide_eq_false fun e => ?_).symm
    exact hlen (by rw [e])

theorem eq_f (l m : List Fd) (A A' : Option Addr) (c c' : Nat) (w : World) (hl : l.length ≤ 10000) (hm : m.length ≤ 10000) (C : Nat) (hs : Seg 6 Fd.cs w C A c l) (hs' : Seg 6 Fd.cs w C A' c' m) :
    Calls Tryd.prog 110 #[.slice A l.length c, .slice A' m.length c'] w fun e w' => e = .returned (.bool (decide (l = m))) ∧ ∃ n, w' = w.drewN n := by
  obtain ⟨r, hr⟩ : ∃ r, decide (l = m) = r := ⟨_, rfl⟩
  rw [hr]
  have hr' := Lib.hid hr
  clear hr
  by_cases hlen : l.length = m.length
  · have hbm : Hid (((m.length : Int) != (m.length : Int)) = false) := Lib.hid (by simp)
    have e0 := hlen
    rw [hlen]
    have hlen' := Lib.hid e0
    clear e0 hlen
    go_enter Tryd.func110, Tryd.ntmps110
    go_wp2
    go_loopw [5, 13] (fun _ i wr => ∃ k : Nat, k ≤ m.length ∧ i = .int .i64 k ∧ (∃ n, wr = w.drewN n) ∧ l.take k = m.take k) (fun _ i _ => m.length - (intOf i).toNat)
    case atStart => exact ⟨0, Nat.zero_le _, rfl, ⟨0, rfl⟩, by simp⟩
    case round =>
      obtain ⟨k, hk, rfl, ⟨n, rfl⟩, htk⟩ := hrel
      have htk' := Lib.hid htk
      clear htk
      by_cases hlt : k < m.length
      · have hltl : Hid (k < l.length) := Lib.hid (by rw [hlen'.out]; exact hlt)
        obtain ⟨b, off, rfl, hb, hc⟩ := hs.2.2 (by have := hltl.out; omega)
        obtain ⟨b', off', rfl, hb', hc'⟩ := hs'.2.2 (by omega)
        obtain ⟨x, hx⟩ : ∃ x, x = l[k]'hltl.out := ⟨_, rfl⟩
        obtain ⟨y, hy⟩ : ∃ y, y = m[k] := ⟨_, rfl⟩
        have g0 := hc k hltl.out 0 _ rfl
        have g1 := hc k hltl.out 1 _ rfl
        have g2 := hc k hltl.out 2 _ rfl
        have g3 := hc k hltl.out 3 _ rfl
        have g4 := hc k hltl.out 4 _ rfl
        have g5 := hc k hltl.out 5 _ rfl
        have h0 := hc' k hlt 0 _ rfl
        have h1 := hc' k hlt 1 _ rfl
        have h2 := hc' k hlt 2 _ rfl
        have h3 := hc' k hlt 3 _ rfl
        have h4 := hc' k hlt 4 _ rfl
        have h5 := hc' k hlt 5 _ rfl
        rw [← hx] at g0 g1 g2 g3 g4 g5
        rw [← hy] at h0 h1 h2 h3 h4 h5
        have hx' := Lib.hid hx
        have hy' := Lib.hid hy
        clear hx hy
        simp only [Nat.add_zero] at g0 h0
        clear hc hs hc' hs'
        have i0 : (0 : Int) ≤ k := by omega
        have i1 : (k : Int) < m.length := by omega
        cases hxy : decide (x = y)
        · have hne := fun w => run_neqF x y w
          rw [hxy] at hne
          unfold Fd.val at hne
          have hxy' := Lib.hid hxy
          clear hxy
          go_wp2
          go_quiet (fail)
          go_wp2
          go_ret
          refine ⟨ret_bool ?_, _, World.drewN_drewN _ _ _⟩
          rw [← hr'.out]
          refine (decide_eq_false fun e => ?_).symm
          subst e
          exact absurd (hx'.out.trans hy'.out.symm) (of_decide_eq_false hxy'.out)
        · have hxy := of_decide_eq_true hxy
          have hsx : Hid (l.take (k + 1) = m.take (k + 1)) := Lib.hid (by
            rw [List.take_succ_eq_append_getElem hltl.out, List.take_succ_eq_append_getElem hlt, htk'.out, ← hx'.out, ← hy'.out, hxy])
          clear hx' hy' htk'
          subst hxy
          have hne := fun w => run_neqF x x w
          rw [decide_eq_true rfl] at hne
          unfold Fd.val at hne
          go_wp2
          go_quiet (fail)
          go_wp2
          go_roundw
          case rel => exact ⟨k + 1, by omega, by go_num, ⟨_, rfl⟩, hsx.out⟩
          case measure => simp [intOf]; omega
      · clear hs hs'
        go_wp2
        go_ret
        refine ⟨ret_bool ?_, _, rfl⟩
        rw [← hr'.out]
        refine (decide_eq_true ?_).symm
        have h := htk'.out
        rwa [List.take_of_length_le (by have := hlen'.out; omega), List.take_of_length_le (by omega)] at h
  · have hbm : ((l.length : Int) != (m.length : Int)) = true := by simp; omega
    go_enter Tryd.func110, Tryd.ntmps110
    go_wp2
    go_ret
    refine ⟨ret_bool ?_, 0, rfl⟩
    rw [← hr'.out]
    refine (decide_eq_false fun e => ?_).symm
    exact hlen (by rw [e])
end Go.Proofs.YtkdhjejchdcipaaDoor
/-
  Layer 4, code: whether composite and declared types are plain, and the same; what is more than a statement looks at.
-/
namespace Go.Proofs.YtkdhjejchdcipaaDoor
open Go.RowKit
set_option linter.unusedVariables false
set_option maxRecDepth 100000

/-- A composite type as a value, its lists below block C. -/
def IsComp (w : World) (C : Nat) (v : Value) (c : Cp) : Prop :=
  ∃ A2 c2 A3 c3 A4 c4, v = .agg #[.int .i64 c.k, .slice A2 c.ps.length c2, .slice A3 c.rs.length c3, .slice A4 c.fs.length c4] ∧
    Seg 4 Vl.cs w C A2 c2 c.ps ∧ Seg 4 Vl.cs w C A3 c3 c.rs ∧ Seg 6 Fd.cs w C A4 c4 c.fs
structure SmallC (c : Cp) : Prop where
  p : c.ps.length ≤ 10000
  r : c.rs.length ≤ 10000
  f : c.fs.length ≤ 10000

theorem len0 {α : Type} (l : List α) : ((l.length : Int) == 0) = decide (l.length = 0) := by
  rw [Bool.eq_iff_iff]; simp
theorem takes_any (c : Cp) (v : Value) (w : World) (C : Nat) (h : IsComp w C v c) (hS : SmallC c) :
    Calls Tryd.prog 132 #[v] w fun e w' => e = .returned (.bool (Kd.takes c)) ∧ Below w.heap.size w w' := by
  obtain ⟨A2, c2, A3, c3, A4, c4, rfl, s2, s3, s4⟩ := h
  obtain ⟨hp, hr, hf⟩ := hS
  have hp' : ((c.ps.length : Nat) : Int) ≤ 10000 := by omega
  have hr' : ((c.rs.length : Nat) : Int) ≤ 10000 := by omega
  clear hp hr hf s2 s3 s4
  go_enter Tryd.func132, Tryd.ntmps132
  go_wp2
  go_ret
  refine ⟨ret_bool ?_, (Below.refl _ _).alloc (Nat.le_refl _) _⟩
  unfold Kd.takes
  simp only [decide_eq_decide]
  omega

set_option maxHeartbeats 800000 in
theorem pComp_any (c : Cp) (v : Value) (w : World) (h : IsComp w w.heap.size v c) (hS : SmallC c) :
    Calls Tryd.prog 102 #[v] w fun e w' => e = .returned (.bool (Kd.pComp c)) ∧ Below w.heap.size w w' := by
  obtain ⟨r, hr⟩ : ∃ r, Kd.pComp c = r := ⟨_, rfl⟩
  rw [hr]
  have hr' := Lib.hid hr
  clear hr
  obtain ⟨A2, c2, A3, c3, A4, c4, rfl, s2, s3, s4⟩ := h
  obtain ⟨k, ps, rs, fs⟩ := c
  obtain ⟨hp, hr, hf⟩ := hS
  dsimp only at hp hr hf s2 s3 s4 ⊢
  have S2 := Lib.hid s2
  have S3 := Lib.hid s3
  have S4 := Lib.hid s4
  have HP := Lib.hid hp
  have HR := Lib.hid hr
  have HF := Lib.hid hf
  clear s2 s3 s4 hp hr hf
  have hb0 : Below w.heap.size w (w.alloc (.cells #[.int .i64 k, .slice A2 ps.length c2, .slice A3 rs.length c3, .slice A4 fs.length c4] 27)) := (Below.refl _ _).alloc (Nat.le_refl _) _
  have CP : Hid (∀ W, Below w.heap.size w W → Calls Tryd.prog 131 #[.slice A2 ps.length c2, .func (.func 98) #[] #[]] W fun e w' => e = .returned (.bool (ps.all Kd.pVal)) ∧ Below W.heap.size W w') :=
    Lib.hid fun W hW => all_v ps A2 c2 W HP.out ((S2.out.below hW).more hW.size)
  have CR : Hid (∀ W, Below w.heap.size w W → Calls Tryd.prog 131 #[.slice A3 rs.length c3, .func (.func 98) #[] #[]] W fun e w' => e = .returned (.bool (rs.all Kd.pVal)) ∧ Below W.heap.size W w') :=
    Lib.hid fun W hW => all_v rs A3 c3 W HR.out ((S3.out.below hW).more hW.size)
  have CF : Hid (∀ W, Below w.heap.size w W → Calls Tryd.prog 133 #[.slice A4 fs.length c4, .func (.func 134) #[] #[]] W fun e w' => e = .returned (.bool (fs.all Kd.pField)) ∧ Below W.heap.size W w') :=
    Lib.hid fun W hW => all_f fs A4 c4 W HF.out ((S4.out.below hW).more hW.size)
  have CT : Hid (∀ W, Below w.heap.size w W → Calls Tryd.prog 132 #[.agg #[.int .i64 k, .slice A2 ps.length c2, .slice A3 rs.length c3, .slice A4 fs.length c4]] W fun e w' => e = .returned (.bool (Kd.takes ⟨k, ps, rs, fs⟩)) ∧ Below W.heap.size W w') :=
    Lib.hid fun W hW => takes_any ⟨k, ps, rs, fs⟩ _ W W.heap.size ⟨A2, c2, A3, c3, A4, c4, rfl, (S2.out.below hW).more hW.size, (S3.out.below hW).more hW.size, (S4.out.below hW).more hW.size⟩ ⟨HP.out, HR.out, HF.out⟩
  by_cases h1 : k = 1
  · subst h1
    cases hps : ps.all Kd.pVal
    · rw [hps] at CP
      go_enter Tryd.func102, Tryd.ntmps102
      go_wp2_with fail
      refine (CP.out _ hb0).mono ?_
      rintro e w1 ⟨rfl, hb1⟩
      go_wp2
      go_ret
      exact ⟨ret_bool (by rw [← hr'.out]; simp [Kd.pComp, hps]), below_trans hb0 hb1⟩
    · rw [hps] at CP
      cases hrs : rs.all Kd.pVal
      all_goals
        rw [hrs] at CR
        go_enter Tryd.func102, Tryd.ntmps102
        go_wp2_with fail
        refine (CP.out _ hb0).mono ?_
        rintro e w1 ⟨rfl, hb1⟩
        obtain ⟨hc1, hf1⟩ := bcell hb1
        have hB1 := below_trans hb0 hb1
        have hz2 : w.heap.size < w1.heap.size := by have := hb1.size; simp at this; omega
        go_wp2_with fail
        refine (CR.out _ hB1).mono ?_
        rintro e w2 ⟨rfl, hb2⟩
        obtain ⟨hc2, hf2⟩ := bcell hb2
        have hB2 := below_trans hB1 hb2
        go_wp2
        go_ret
        exact ⟨ret_bool (by rw [← hr'.out]; simp only [Kd.pComp, hps, hrs, len0]; simp), hB2⟩
  · by_cases h2 : k = 2
    · subst h2
      cases ht : Kd.takes ⟨2, ps, rs, fs⟩
      · rw [ht] at CT
        go_enter Tryd.func102, Tryd.ntmps102
        go_wp2_with fail
        refine (CT.out _ hb0).mono ?_
        rintro e w1 ⟨rfl, hb1⟩
        obtain ⟨hc1, hf1⟩ := bcell hb1
        have hB1 := below_trans hb0 hb1
        go_wp2_with fail
        refine (CF.out _ hB1).mono ?_
        rintro e w2 ⟨rfl, hb2⟩
        have hB2 := below_trans hB1 hb2
        go_wp2
        go_ret
        exact ⟨ret_bool (by rw [← hr'.out]; simp [Kd.pComp, ht]), hB2⟩
      · rw [ht] at CT
        go_enter Tryd.func102, Tryd.ntmps102
        go_wp2_with fail
        refine (CT.out _ hb0).mono ?_
        rintro e w1 ⟨rfl, hb1⟩
        go_wp2
        go_ret
        exact ⟨ret_bool (by rw [← hr'.out]; simp [Kd.pComp, ht]), below_trans hb0 hb1⟩
    · by_cases h3 : k = 3
      · subst h3
        cases ht : Kd.takes ⟨3, ps, rs, fs⟩
        · rw [ht] at CT
          rcases Decidable.em (fs.length = 1) with hl | hl
          · obtain ⟨f, hfs⟩ := List.length_eq_one_iff.1 hl
            obtain ⟨b, off, hA, hbb, hc⟩ := S4.out.2.2 (by omega)
            have g0 := hc 0 (by omega) 0 _ rfl
            have g1 := hc 0 (by omega) 1 _ rfl
            have g2 := hc 0 (by omega) 2 _ rfl
            have g3 := hc 0 (by omega) 3 _ rfl
            have g4 := hc 0 (by omega) 4 _ rfl
            have g5 := hc 0 (by omega) 5 _ rfl
            subst hfs
            subst hA
            clear hc CF
            simp only [Nat.zero_mul, Nat.add_zero, List.getElem_cons_zero] at g0 g1 g2 g3 g4 g5
            go_enter Tryd.func102, Tryd.ntmps102
            go_wp2_with fail
            refine (CT.out _ hb0).mono ?_
            rintro e w1 ⟨rfl, hb1⟩
            obtain ⟨hc1, hf1⟩ := bcell hb1
            have hB1 := below_trans hb0 hb1
            have g0 := (hB1.cell (p := ⟨b, off, none⟩) hbb).trans g0
            have g1 := (hB1.cell (p := ⟨b, off + 1, none⟩) hbb).trans g1
            have g2 := (hB1.cell (p := ⟨b, off + 2, none⟩) hbb).trans g2
            have g3 := (hB1.cell (p := ⟨b, off + 3, none⟩) hbb).trans g3
            have g4 := (hB1.cell (p := ⟨b, off + 4, none⟩) hbb).trans g4
            have g5 := (hB1.cell (p := ⟨b, off + 5, none⟩) hbb).trans g5
            go_wp2_with fail
            refine (pField_any f _).mono ?_
            rintro e w2 ⟨rfl, hb2⟩
            have hB2 := below_trans hB1 hb2
            go_wp2
            go_ret
            exact ⟨ret_bool (by rw [← hr'.out]; simp [Kd.pComp, ht]), hB2⟩
          · have hl' : ((fs.length : Int) == 1) = false := by simp; omega
            go_enter Tryd.func102, Tryd.ntmps102
            go_wp2_with fail
            refine (CT.out _ hb0).mono ?_
            rintro e w1 ⟨rfl, hb1⟩
            obtain ⟨hc1, hf1⟩ := bcell hb1
            have hB1 := below_trans hb0 hb1
            go_wp2
            go_ret
            exact ⟨ret_bool (by rw [← hr'.out]; simp [Kd.pComp, ht, hl]), hB1⟩
        · rw [ht] at CT
          go_enter Tryd.func102, Tryd.ntmps102
          go_wp2_with fail
          refine (CT.out _ hb0).mono ?_
          rintro e w1 ⟨rfl, hb1⟩
          go_wp2
          go_ret
          exact ⟨ret_bool (by rw [← hr'.out]; simp [Kd.pComp, ht]), below_trans hb0 hb1⟩
      · go_enter Tryd.func102, Tryd.ntmps102
        go_wp2
        go_ret
        exact ⟨ret_bool (by rw [← hr'.out]; simp [Kd.pComp, h1, h2, h3]), hb0⟩
end Go.Proofs.YtkdhjejchdcipaaDoor
/-
  Layer 4, code: PlainSub, SameVals, Same; the statements' own 'great'.
-/
namespace Go.Proofs.YtkdhjejchdcipaaDoor
open Go.RowKit
set_option linter.unusedVariables false
set_option maxRecDepth 100000

theorem Kd.Small.c {s : Sb} (h : Kd.Small s) : SmallC s.c := ⟨h.p, h.r, h.f⟩
theorem pSub_any (s : Sb) (v : Value) (w : World) (h : IsSub w w.heap.size v s) (hS : Kd.Small s) :
    Calls Tryd.prog 55 #[v] w fun e w' => e = .returned (.bool (Kd.pSub s)) ∧ Below w.heap.size w w' := by
  obtain ⟨A1, c1, A2, c2, A3, c3, A4, c4, rfl, s1, s2, s3, s4⟩ := h
  have S1 := Lib.hid s1
  have S2 := Lib.hid s2
  have S3 := Lib.hid s3
  have S4 := Lib.hid s4
  clear s1 s2 s3 s4
  obtain ⟨r, hr⟩ : ∃ r, Kd.pSub s = r := ⟨_, rfl⟩
  rw [hr]
  have hr' := Lib.hid hr
  clear hr
  have hb0 : Below w.heap.size w (w.alloc (.cells #[.bool s.fin, .slice A1 s.sups.length c1, .int .i64 s.c.k, .slice A2 s.c.ps.length c2, .slice A3 s.c.rs.length c3, .slice A4 s.c.fs.length c4] 29)) := (Below.refl _ _).alloc (Nat.le_refl _) _
  have CP : Hid (∀ W, Below w.heap.size w W → Calls Tryd.prog 100 #[.slice A1 s.sups.length c1, .func (.func 101) #[] #[]] W fun e w' => e = .returned (.bool (s.sups.all Kd.pIdx)) ∧ Below W.heap.size W w') :=
    Lib.hid fun W hW => all_h s.sups A1 c1 W hS.a ((S1.out.below hW).more hW.size)
  have CC : Hid (∀ W, Below w.heap.size w W → Calls Tryd.prog 102 #[.agg #[.int .i64 s.c.k, .slice A2 s.c.ps.length c2, .slice A3 s.c.rs.length c3, .slice A4 s.c.fs.length c4]] W fun e w' => e = .returned (.bool (Kd.pComp s.c)) ∧ Below W.heap.size W w') :=
    Lib.hid fun W hW => pComp_any s.c _ W ⟨A2, c2, A3, c3, A4, c4, rfl, (S2.out.below hW).more hW.size, (S3.out.below hW).more hW.size, (S4.out.below hW).more hW.size⟩ hS.c
  clear hS
  cases ha : s.sups.all Kd.pIdx
  · rw [ha] at CP
    go_enter Tryd.func55, Tryd.ntmps55
    go_wp2_with fail
    refine (CP.out _ hb0).mono ?_
    rintro e w1 ⟨rfl, hb1⟩
    go_wp2
    go_ret
    exact ⟨ret_bool (by rw [← hr'.out]; simp [Kd.pSub, ha]), below_trans hb0 hb1⟩
  · rw [ha] at CP
    go_enter Tryd.func55, Tryd.ntmps55
    go_wp2_with fail
    refine (CP.out _ hb0).mono ?_
    rintro e w1 ⟨rfl, hb1⟩
    obtain ⟨hc1, hf1⟩ := bcell hb1
    have hB1 := below_trans hb0 hb1
    go_wp2_with fail
    refine (CC.out _ hB1).mono ?_
    rintro e w2 ⟨rfl, hb2⟩
    go_wp2
    go_ret
    exact ⟨ret_bool (by rw [← hr'.out]; simp [Kd.pSub, ha]), below_trans hB1 hb2⟩

theorem below_drew {w : World} (n : Nat) : Below w.heap.size w (w.drewN n) := below_drewN (Below.refl _ _) n
theorem sameVals_any (l m : List Vl) (A A' : Option Addr) (c c' : Nat) (w : World) (hl : l.length ≤ 10000) (hm : m.length ≤ 10000) (C : Nat) (hs : Seg 4 Vl.cs w C A c l) (hs' : Seg 4 Vl.cs w C A' c' m) :
    Calls Tryd.prog 109 #[.slice A l.length c, .slice A' m.length c'] w fun e w' => e = .returned (.bool (decide (l = m))) ∧ ∃ n, w' = w.drewN n := by
  have S := Lib.hid hs
  have S' := Lib.hid hs'
  clear hs hs'
  go_enter Tryd.func109, Tryd.ntmps109
  go_wp2_with fail
  refine (eq_v l m A A' c c' _ hl hm C S.out S'.out).mono ?_
  rintro e w1 ⟨rfl, n, rfl⟩
  go_wp2
  go_ret
  exact ⟨rfl, n, rfl⟩
set_option maxHeartbeats 800000 in
theorem sameComp_any (a b : Cp) (x y : Value) (w : World) (C : Nat) (hx : IsComp w C x a) (hy : IsComp w C y b) (ha : SmallC a) (hb : SmallC b) (hC : C ≤ w.heap.size) :
    Calls Tryd.prog 63 #[x, y] w fun e w' => e = .returned (.bool (decide (a = b))) ∧ Below w.heap.size w w' := by
  obtain ⟨A2, c2, A3, c3, A4, c4, rfl, s2, s3, s4⟩ := hx
  obtain ⟨B2, d2, B3, d3, B4, d4, rfl, t2, t3, t4⟩ := hy
  have b0 : Below C w ((w.alloc (.cells #[.int .i64 a.k, .slice A2 a.ps.length c2, .slice A3 a.rs.length c3, .slice A4 a.fs.length c4] 27)).alloc (.cells #[.int .i64 b.k, .slice B2 b.ps.length d2, .slice B3 b.rs.length d3, .slice B4 b.fs.length d4] 27)) := ((Below.refl _ _).alloc hC _).alloc (by simp; omega) _
  have e0 : Below w.heap.size w ((w.alloc (.cells #[.int .i64 a.k, .slice A2 a.ps.length c2, .slice A3 a.rs.length c3, .slice A4 a.fs.length c4] 27)).alloc (.cells #[.int .i64 b.k, .slice B2 b.ps.length d2, .slice B3 b.rs.length d3, .slice B4 b.fs.length d4] 27)) := ((Below.refl _ _).alloc (Nat.le_refl _) _).alloc (by simp) _
  have CP : Hid (∀ W, Below C w W → Calls Tryd.prog 109 #[.slice A2 a.ps.length c2, .slice B2 b.ps.length d2] W fun e w' => e = .returned (.bool (decide (a.ps = b.ps))) ∧ ∃ n, w' = W.drewN n) :=
    Lib.hid fun W hW => sameVals_any a.ps b.ps A2 B2 c2 d2 W ha.p hb.p C (s2.below hW) (t2.below hW)
  have CR : Hid (∀ W, Below C w W → Calls Tryd.prog 109 #[.slice A3 a.rs.length c3, .slice B3 b.rs.length d3] W fun e w' => e = .returned (.bool (decide (a.rs = b.rs))) ∧ ∃ n, w' = W.drewN n) :=
    Lib.hid fun W hW => sameVals_any a.rs b.rs A3 B3 c3 d3 W ha.r hb.r C (s3.below hW) (t3.below hW)
  have CF : Hid (∀ W, Below C w W → Calls Tryd.prog 110 #[.slice A4 a.fs.length c4, .slice B4 b.fs.length d4] W fun e w' => e = .returned (.bool (decide (a.fs = b.fs))) ∧ ∃ n, w' = W.drewN n) :=
    Lib.hid fun W hW => eq_f a.fs b.fs A4 B4 c4 d4 W ha.f hb.f C (s4.below hW) (t4.below hW)
  clear s2 s3 s4 t2 t3 t4 ha hb
  have B0 := Lib.hid b0
  have E0 := Lib.hid e0
  clear b0 e0
  obtain ⟨r, hr⟩ : ∃ r, decide (a = b) = r := ⟨_, rfl⟩
  rw [hr]
  have hr' := Lib.hid hr
  clear hr
  have hk : ∀ {x y : Bool}, x = y → x = y := fun h => h
  rcases Decidable.em (a.k = b.k) with h1 | h1
  · have H1 := Lib.hid h1
    rw [h1] at E0 B0 ⊢
    clear h1
    cases h2 : decide (a.ps = b.ps)
    · rw [h2] at CP
      have H2 := Lib.hid h2
      clear h2
      go_enter Tryd.func63, Tryd.ntmps63
      go_wp2_with fail
      refine (CP.out _ B0.out).mono ?_
      rintro e w1 ⟨rfl, n1, rfl⟩
      go_wp2
      go_ret
      refine ⟨ret_bool ?_, below_drewN E0.out _⟩
      rw [← hr'.out]
      exact (decide_eq_false fun e => of_decide_eq_false H2.out (by rw [e])).symm
    · rw [h2] at CP
      have H2 := Lib.hid h2
      clear h2
      cases h3 : decide (a.rs = b.rs)
      · rw [h3] at CR
        have H3 := Lib.hid h3
        clear h3
        go_enter Tryd.func63, Tryd.ntmps63
        go_wp2_with fail
        refine (CP.out _ B0.out).mono ?_
        rintro e w1 ⟨rfl, n1, rfl⟩
        go_wp2_with fail
        refine (CR.out _ (below_drewN B0.out _)).mono ?_
        rintro e w2 ⟨rfl, n2, rfl⟩
        go_wp2
        go_ret
        refine ⟨ret_bool ?_, below_drewN E0.out _⟩
        rw [← hr'.out]
        exact (decide_eq_false fun e => of_decide_eq_false H3.out (by rw [e])).symm
      · rw [h3] at CR
        have H3 := Lib.hid h3
        clear h3
        go_enter Tryd.func63, Tryd.ntmps63
        go_wp2_with fail
        refine (CP.out _ B0.out).mono ?_
        rintro e w1 ⟨rfl, n1, rfl⟩
        go_wp2_with fail
        refine (CR.out _ (below_drewN B0.out _)).mono ?_
        rintro e w2 ⟨rfl, n2, rfl⟩
        go_wp2_with fail
        refine (CF.out _ (below_drewN B0.out _)).mono ?_
        rintro e w3 ⟨rfl, n3, rfl⟩
        go_wp2
        go_ret
        refine ⟨ret_bool ?_, below_drewN E0.out _⟩
        rw [← hr'.out]
        have h1 := H1.out
        have h2 := of_decide_eq_true H2.out
        have h3 := of_decide_eq_true H3.out
        obtain ⟨k, p, r, f⟩ := a
        obtain ⟨k', p', r', f'⟩ := b
        dsimp only at h1 h2 h3 ⊢
        subst h1 h2 h3
        simp
  · have hk : (a.k == b.k) = false := by simpa using h1
    go_enter Tryd.func63, Tryd.ntmps63
    go_wp2
    go_ret
    refine ⟨ret_bool ?_, E0.out⟩
    rw [← hr'.out]
    exact (decide_eq_false fun e => h1 (by rw [e])).symm

set_option maxHeartbeats 800000 in
theorem same_any (a b : Sb) (x y : Value) (w : World) (hx : IsSub w w.heap.size x a) (hy : IsSub w w.heap.size y b) (ha : Kd.Small a) (hb : Kd.Small b) :
    Calls Tryd.prog 22 #[x, y] w fun e w' => e = .returned (.bool (decide (a = b))) ∧ Below w.heap.size w w' := by
  obtain ⟨A1, c1, A2, c2, A3, c3, A4, c4, rfl, s1, s2, s3, s4⟩ := hx
  obtain ⟨B1, d1, B2, d2, B3, d3, B4, d4, rfl, t1, t2, t3, t4⟩ := hy
  have E0 : Hid (Below w.heap.size w ((w.alloc (.cells #[.bool a.fin, .slice A1 a.sups.length c1, .int .i64 a.c.k, .slice A2 a.c.ps.length c2, .slice A3 a.c.rs.length c3, .slice A4 a.c.fs.length c4] 29)).alloc (.cells #[.bool b.fin, .slice B1 b.sups.length d1, .int .i64 b.c.k, .slice B2 b.c.ps.length d2, .slice B3 b.c.rs.length d3, .slice B4 b.c.fs.length d4] 29))) := Lib.hid (((Below.refl _ _).alloc (Nat.le_refl _) _).alloc (by simp) _)
  have CP : Hid (∀ W, Below w.heap.size w W → Calls Tryd.prog 62 #[.slice A1 a.sups.length c1, .slice B1 b.sups.length d1] W fun e w' => e = .returned (.bool (decide (a.sups = b.sups))) ∧ ∃ n, w' = W.drewN n) :=
    Lib.hid fun W hW => eq_h a.sups b.sups A1 B1 c1 d1 W ha.a hb.a _ (s1.below hW) (t1.below hW)
  have CC : Hid (∀ W, Below w.heap.size w W → Calls Tryd.prog 63 #[.agg #[.int .i64 a.c.k, .slice A2 a.c.ps.length c2, .slice A3 a.c.rs.length c3, .slice A4 a.c.fs.length c4], .agg #[.int .i64 b.c.k, .slice B2 b.c.ps.length d2, .slice B3 b.c.rs.length d3, .slice B4 b.c.fs.length d4]] W fun e w' => e = .returned (.bool (decide (a.c = b.c))) ∧ Below W.heap.size W w') :=
    Lib.hid fun W hW => sameComp_any a.c b.c _ _ W w.heap.size ⟨A2, c2, A3, c3, A4, c4, rfl, s2.below hW, s3.below hW, s4.below hW⟩ ⟨B2, d2, B3, d3, B4, d4, rfl, t2.below hW, t3.below hW, t4.below hW⟩ ha.c hb.c hW.size
  clear s1 s2 s3 s4 t1 t2 t3 t4 ha hb
  obtain ⟨r, hr⟩ : ∃ r, decide (a = b) = r := ⟨_, rfl⟩
  rw [hr]
  have hr' := Lib.hid hr
  clear hr
  rcases Decidable.em (a.fin = b.fin) with h1 | h1
  · have H1 := Lib.hid h1
    rw [h1] at E0 ⊢
    clear h1
    have hbb : (b.fin == b.fin) = true := by simp
    cases h2 : decide (a.sups = b.sups)
    · rw [h2] at CP
      have H2 := Lib.hid h2
      clear h2
      go_enter Tryd.func22, Tryd.ntmps22
      go_wp2_with fail
      refine (CP.out _ E0.out).mono ?_
      rintro e w1 ⟨rfl, n1, rfl⟩
      go_wp2
      go_ret
      refine ⟨ret_bool ?_, below_drewN E0.out _⟩
      rw [← hr'.out]
      exact (decide_eq_false fun e => of_decide_eq_false H2.out (by rw [e])).symm
    · rw [h2] at CP
      have H2 := Lib.hid h2
      clear h2
      go_enter Tryd.func22, Tryd.ntmps22
      go_wp2_with fail
      refine (CP.out _ E0.out).mono ?_
      rintro e w1 ⟨rfl, n1, rfl⟩
      go_wp2_with fail
      refine (CC.out _ (below_drewN E0.out _)).mono ?_
      rintro e w2 ⟨rfl, hb2⟩
      go_wp2
      go_ret
      refine ⟨ret_bool ?_, below_trans (below_drewN E0.out _) hb2⟩
      rw [← hr'.out]
      have h1 := H1.out
      have h2 := of_decide_eq_true H2.out
      obtain ⟨f, p, c⟩ := a
      obtain ⟨f', p', c'⟩ := b
      dsimp only at h1 h2 ⊢
      subst h1 h2
      simp
  · have hk : (a.fin == b.fin) = false := by simpa using h1
    go_enter Tryd.func22, Tryd.ntmps22
    go_wp2
    go_ret
    refine ⟨ret_bool ?_, E0.out⟩
    rw [← hr'.out]
    exact (decide_eq_false fun e => h1 (by rw [e])).symm

def Kd.great (s : Sb) : Bool := decide (20 < s.sups.length) || (decide (60 < s.c.ps.length) || (decide (60 < s.c.rs.length) || decide (60 < s.c.fs.length)))
theorem Kd.great_no {s : Sb} (h : Kd.great s = false) : s.sups.length ≤ 20 ∧ s.c.ps.length ≤ 60 ∧ s.c.rs.length ≤ 60 ∧ s.c.fs.length ≤ 60 := by
  unfold Kd.great at h
  simp only [Bool.or_eq_false_iff, decide_eq_false_iff_not] at h
  omega
theorem great_any (s : Sb) (v : Value) (w : World) (C : Nat) (h : IsSub w C v s) :
    Calls Tryd.prog 9 #[v] w fun e w' => e = .returned (.bool (Kd.great s)) ∧ Below w.heap.size w w' := by
  obtain ⟨A1, c1, A2, c2, A3, c3, A4, c4, rfl, s1, s2, s3, s4⟩ := h
  clear s1 s2 s3 s4
  obtain ⟨r, hr⟩ : ∃ r, Kd.great s = r := ⟨_, rfl⟩
  rw [hr]
  have hr' := Lib.hid hr
  clear hr
  go_enter Tryd.func9, Tryd.ntmps9
  go_wp2
  all_goals
    go_ret
    refine ⟨ret_bool ?_, (Below.refl _ _).alloc (Nat.le_refl _) _⟩
    rw [← hr'.out]
    unfold Kd.great
    rw [Bool.eq_iff_iff]
    simp only [Bool.or_eq_true, decide_eq_true_eq, true_iff]
    omega
end Go.Proofs.YtkdhjejchdcipaaDoor
/-
  Layer 6, code: a composite type's bytes.
-/
namespace Go.Proofs.YtkdhjejchdcipaaDoor
open Go.RowKit
set_option linter.unusedVariables false
set_option linter.unusedSimpArgs false
set_option maxRecDepth 100000

/-- 'append(v, b...)', the run itself. -/
theorem run_catB {wr : World} {B C m c : Nat} {A : Option Addr} {v : Value} {l l2 : List Nat} (hown : Own B wr v l) (hb : Bytes wr C A m c l2) (hB : B ≤ wr.heap.size) (k : Nat) (hl : k < 1000000000000) (hk : l.length + m = k) (ty : TypeId) :
    ∃ A' c' w', (Builtin.append_ #[54, 54] ty #[v, .slice A m c]).run Tryd.prog wr = .ok (.slice A' k c') w' ∧ Own B w' (.slice A' k c') (l ++ l2) ∧ wr.grownBy w' v.ownBlock := by
  obtain ⟨i0, hi0, hz0, hz1, hz2⟩ := info_byte
  obtain ⟨hm, hmc, hcm, hlt, hcell⟩ := hb
  subst hm
  subst hk
  rcases A with _ | ad
  · have hl2 : l2 = [] := by
      rcases Nat.eq_zero_or_pos l2.length with h0 | h0
      · exact List.eq_nil_of_length_eq_zero h0
      · obtain ⟨b, off, e, _⟩ := hcell h0; cases e
    subst hl2
    have hrun : (Builtin.append_ #[54, 54] ty #[v, .slice none 0 c]).run Tryd.prog wr = .ok v wr := by
      rcases hown.2 with ⟨rfl, h0⟩ | ⟨g, cap, cur, rfl, _, _, hnc, _⟩
      · simp [Builtin.append_, run_underlying Tryd.underlying54, sizeOf, typeInfo, hi0, Builtin.lenOf, Builtin.firstCells]
      · simp [Builtin.append_, run_underlying Tryd.underlying54, sizeOf, typeInfo, hi0, Builtin.lenOf, Builtin.firstCells, hnc, storeCells]
    obtain ⟨A', c', e⟩ := hown.form
    refine ⟨A', c', wr, ?_, ?_, ⟨rfl, rfl, rfl, Nat.le_refl _, fun _ _ _ => rfl⟩⟩
    · rw [List.length_nil, Nat.add_zero, ← e]; exact hrun
    · rw [List.append_nil, List.length_nil, Nat.add_zero, ← e]; exact hown
  · have h := run_append_own_at (P := Tryd.prog) wr B 54 ty 5 i0 (.int .u8 0) 1 1 Tryd.underlying54 hi0 hz0 hz1 hz2 rfl (by decide) v l.length (l.map U8) hown ad l2.length c (l2.map U8) (by simp)
      (fun j u hu => by
        have hj : j < l2.length := by
          have := (List.getElem?_eq_some_iff.1 hu).1
          simpa using this
        obtain ⟨b, off, e, hbC, hc⟩ := hcell (by omega)
        injection e with e
        subst e
        rw [Addr.add_lit, hc j hj]
        simp [List.getElem?_eq_getElem hj, U8] at hu ⊢
        exact hu) (fun u hu => U8_one u l2 hu) (by simp only [maxLen]; omega) (by omega) hB
    obtain ⟨v', w', hrun, hown', hg, -, -⟩ := h
    have h1 : Own B w' v' (l ++ l2) := by simpa [Own] using hown'
    obtain ⟨A', c', rfl⟩ := h1.form
    rw [List.length_append] at *
    exact ⟨A', c', w', hrun, h1, hg⟩
/-- 'append(v, b...)' in a region that draws its order: by its run. -/
theorem cat_step {ops : Array Oper} {o : Oper} {a : Act} {w w' : World} {K : Act → World → Prop} {Q : Exit → Act → World → Prop} {E : Prop} {v r : Value} {A : Option Addr} {m c : Nat} {ty : TypeId} (hgd : o.guard = none) (s x : Operand)
    (ho : o.op = .call { callee := .builtin .append, args := #[s, x], argTypes := #[54, 54] }) (hty : o.type = ty) (hs : a.eval s = v) (hx : a.eval x = .slice A m c)
    (hrun : (Builtin.append_ #[54, 54] ty #[v, .slice A m c]).run Tryd.prog w = .ok r w') (h : K (a.put o.dst r) w') :
    if Region.wanted o (yielded ops a.tmps) = true then Oper.wp Tryd.prog o a w K Q else E := by
  have hw : Region.wanted o (yielded ops a.tmps) = true := by simp [Region.wanted, hgd]
  rw [if_pos hw]
  unfold Oper.wp execOp
  subst hty
  simp only [ho, resolve, invoke, builtin, Sem.run_bind, Sem.run_pure, Result.andThen_ok, List.map_toArray, List.map_cons, List.map_nil, hs, hx, hrun]
  exact h
set_option maxHeartbeats 4000000 in
theorem putComp_func (c : Cp) (hk : c.k = 1) (v : Value) (w : World) (hT : Tab6 w) (h : IsComp w w.heap.size v c) (hS : SmallC c) (hp : Kd.pComp c = true) : Calls Tryd.prog 125 #[v] w (Made (Tb.putComp c) w) := by
  obtain ⟨Q, hQ⟩ : ∃ Q : Ending → World → Prop, Q = Made (Tb.putComp c) w := ⟨_, rfl⟩
  rw [← hQ]
  obtain ⟨A2, c2, A3, c3, A4, c4, rfl, s2, s3, s4⟩ := h
  obtain ⟨k, ps, rs, fs⟩ := c
  obtain ⟨hsp, hsr, hsf⟩ := hS
  dsimp only at hk hsp hsr hsf s2 s3 s4 ⊢
  subst hk
  have hpp : (∀ x ∈ ps, Kd.pVal x = true) ∧ ∀ x ∈ rs, Kd.pVal x = true := by
    unfold Kd.pComp at hp
    dsimp only at hp
    rw [if_pos rfl] at hp
    simp only [Bool.and_eq_true, List.all_eq_true] at hp
    exact ⟨hp.1, hp.2.1⟩
  obtain ⟨W0, hW0⟩ : ∃ W0, W0 = w.alloc (.cells #[.int .i64 1, .slice A2 ps.length c2, .slice A3 rs.length c3, .slice A4 fs.length c4] 27) := ⟨_, rfl⟩
  have hB0 : Below w.heap.size w W0 := by rw [hW0]; exact (Below.refl _ _).alloc (Nat.le_refl _) _
  have d1 : W0.cell? ⟨w.heap.size, 1, none⟩ = some (.slice A2 ps.length c2) := by rw [hW0]; go_simp
  have d2 : W0.cell? ⟨w.heap.size, 2, none⟩ = some (.slice A3 rs.length c3) := by rw [hW0]; go_simp
  have hb0 : w.heap.size < W0.heap.size := by rw [hW0]; simp
  have HI : Hid (Q = Made (96 :: (Tb.putList Tb.putVal ps ++ Tb.putList Tb.putVal rs)) w) := Lib.hid hQ
  have HLP := Lib.hid (Tb.putList_len Tb.putVal 12 ps hsp fun x hx => Nat.le_trans (Tb.putVal_len11 (hpp.1 x hx)) (by omega))
  have HLR := Lib.hid (Tb.putList_len Tb.putVal 12 rs hsr fun x hx => Nat.le_trans (Tb.putVal_len11 (hpp.2 x hx)) (by omega))
  have HXP := Lib.hid (Tb.putList_lt Tb.putVal Tb.putVal_lt ps)
  have HXR := Lib.hid (Tb.putList_lt Tb.putVal Tb.putVal_lt rs)
  have CP : Hid (∀ W, Below W0.heap.size W0 W → Calls Tryd.prog 155 #[.slice A2 ps.length c2, .func (.func 99) #[] #[]] W (Made (Tb.putList Tb.putVal ps) W)) :=
    Lib.hid fun W hW => have h1 := hB0.trans (hW.mono hB0.size); putList_v ps A2 c2 W (hT.below h1) hsp hpp.1 ((s2.below h1).more h1.size)
  have CR : Hid (∀ W, Below W0.heap.size W0 W → Calls Tryd.prog 155 #[.slice A3 rs.length c3, .func (.func 99) #[] #[]] W (Made (Tb.putList Tb.putVal rs) W)) :=
    Lib.hid fun W hW => have h1 := hB0.trans (hW.mono hB0.size); putList_v rs A3 c3 W (hT.below h1) hsr hpp.2 ((s3.below h1).more h1.size)
  generalize Tb.putList Tb.putVal ps = lp at HI HLP HXP CP
  generalize Tb.putList Tb.putVal rs = lr at HI HLR HXR CR
  have HB0 := Lib.hid hB0
  have HW0 := Lib.hid hW0
  have BW : Below W0.heap.size W0 W0 := Below.refl _ _
  have HSO : Hid (∀ y, Below W0.heap.size W0 y → y.cell? ⟨w.heap.size, 1, none⟩ = some (.slice A2 ps.length c2) ∧ y.cell? ⟨w.heap.size, 2, none⟩ = some (.slice A3 rs.length c3) ∧ Below W0.heap.size W0 y) := Lib.hid fun y hy =>
    ⟨(hy.cell (p := ⟨w.heap.size, 1, none⟩) hb0).trans d1, (hy.cell (p := ⟨w.heap.size, 2, none⟩) hb0).trans d2, hy⟩
  clear s2 s3 s4 hsp hsr hsf hpp hp hT hQ hW0 hB0
  go_enter Tryd.func125, Tryd.ntmps125
  go_wp2_with fail
  rw [← HW0.out]
  go_region_held3 (fun w' => w'.cell? ⟨w.heap.size, 1, none⟩ = some (.slice A2 ps.length c2) ∧ w'.cell? ⟨w.heap.size, 2, none⟩ = some (.slice A3 rs.length c3) ∧ Below W0.heap.size W0 w')
    (first
      | exact HSO.out _ HB6.out
      | exact HSO.out _ HB9.out
      | exact HSO.out _ HB5.out
      | exact HSO.out _ HB8.out
      | exact HSO.out _ HB7.out
      | exact HSO.out _ HB7.out.drew
      | exact HSO.out _ BW.drew
      | exact HSO.out _ (BW.alloc (Nat.le_refl _) _)
      | exact HSO.out _ (BW.alloc (Nat.le_refl _) _).drew
      | exact HSO.out _ HB8.out.drew
      | exact HSO.out _ HB5.out.drew
      | exact HSO.out _ HB9.out.drew
      | exact HSO.out _ HB6.out.drew)
    (((try go_split_ands); (first
      | (refine cat_step rfl _ _ rfl rfl rfl rfl hrun6 ?_)
      | (refine cat_step rfl _ _ rfl rfl rfl rfl hrun5 ?_)
      | ((with_reducible refine (CP.out _ (by assumption)).mono ?_); rintro e w8 ⟨x8, rfl, ho, hbb⟩; obtain ⟨A8, c8, rfl, hy8, -⟩ := ho.bs HXP.out; have hL8 : Own W0.heap.size w8 (.slice (some ⟨W0.heap.size, 0, none⟩) 1 1) [96] := Own.below (World.ownsRow.drew (Own.lit1 W0 (Nat.le_refl _) 96)) hbb; have hB8 : Below W0.heap.size W0 w8 := (BW.alloc (Nat.le_refl _) _).drew.trans (hbb.mono (by simp)); obtain ⟨A5, c5, w5, hrun5, hown5, hg5⟩ := run_catB hL8 hy8 hB8.size (lp.length + 1) (by have := HLP.out; omega) (Nat.add_comm 1 lp.length) 54; have HB5 : Hid (Below W0.heap.size W0 w5) := Lib.hid (hL8.grown hg5 (Nat.le_refl _) hB8.size hB8); have HB8 := Lib.hid hB8; have HO5 := Lib.hid hown5; clear ho hbb hy8 hL8 hB8 hown5 hg5)
      | ((with_reducible refine (CP.out _ (by assumption)).mono ?_); rintro e w8 ⟨x8, rfl, ho, hbb⟩; obtain ⟨A8, c8, rfl, hy8, -⟩ := ho.bs HXP.out; have hB7 : Below W0.heap.size W0 w8 := BW.drew.trans hbb; have hL8 := Own.lit1 w8 hB7.size 96; have hB8 := hB7.alloc hB7.size (.cells #[.int .u8 ((96 : Nat) : Int)] 5); have HB7 := Lib.hid hB7; obtain ⟨A5, c5, w5, hrun5, hown5, hg5⟩ := run_catB hL8 (hy8.below ((Below.refl _ _).alloc (Nat.le_refl _) _)) hB8.size (lp.length + 1) (by have := HLP.out; omega) (Nat.add_comm 1 lp.length) 54; have HB5 : Hid (Below W0.heap.size W0 w5) := Lib.hid (hL8.grown hg5 (Nat.le_refl _) hB8.size hB8); have HB8 := Lib.hid hB8; have HO5 := Lib.hid hown5; clear ho hbb hy8 hL8 hB8 hB7 hown5 hg5)
      | ((with_reducible refine (CR.out _ (by assumption)).mono ?_); rintro e w9 ⟨x9, rfl, ho, hbb⟩; obtain ⟨A9, c9, rfl, hy9, -⟩ := ho.bs HXR.out; have hL9 := HO5.out.below hbb; have hB9 : Below W0.heap.size W0 w9 := HB5.out.trans (hbb.mono HB5.out.size); obtain ⟨A6, c6, w6, hrun6, hown6, hg6⟩ := run_catB hL9 hy9 hB9.size (lp.length + 1 + lr.length) (by have := HLP.out; have := HLR.out; omega) (by rw [List.length_append, List.length_singleton]; omega) 54; have HB6 : Hid (Below W0.heap.size W0 w6) := Lib.hid (hL9.grown hg6 (Nat.le_refl _) hB9.size hB9); have HB9 := Lib.hid hB9; have HO6 := Lib.hid hown6; clear ho hbb hy9 hL9 hB9 hown6 hg6))))
  all_goals
    go_wp2
    rw [HI.out]
    exact ⟨_, rfl, HO6.out.base HB0.out.size, below_trans HB0.out HB6.out⟩
end Go.Proofs.YtkdhjejchdcipaaDoor
/-
  Layer 6, code: a composite type's bytes.
-/
namespace Go.Proofs.YtkdhjejchdcipaaDoor
open Go.RowKit
set_option linter.unusedVariables false
set_option linter.unusedSimpArgs false
set_option maxRecDepth 100000

set_option maxHeartbeats 4000000 in
theorem putComp_struct (c : Cp) (hk : c.k = 2) (v : Value) (w : World) (hT : Tab6 w) (h : IsComp w w.heap.size v c) (hS : SmallC c) (hp : Kd.pComp c = true) : Calls Tryd.prog 125 #[v] w (Made (Tb.putComp c) w) := by
  obtain ⟨Q, hQ⟩ : ∃ Q : Ending → World → Prop, Q = Made (Tb.putComp c) w := ⟨_, rfl⟩
  rw [← hQ]
  obtain ⟨A2, c2, A3, c3, A4, c4, rfl, s2, s3, s4⟩ := h
  obtain ⟨k, ps, rs, fs⟩ := c
  obtain ⟨hsp, hsr, hsf⟩ := hS
  dsimp only at hk hsp hsr hsf s2 s3 s4 ⊢
  subst hk
  clear s2 s3 hsp hsr
  have hpf : ∀ x ∈ fs, Kd.pField x = true := by
    unfold Kd.pComp at hp
    dsimp only at hp
    rw [if_neg (by decide), if_pos rfl] at hp
    simp only [Bool.and_eq_true, List.all_eq_true] at hp
    exact hp.2
  obtain ⟨W0, hW0⟩ : ∃ W0, W0 = w.alloc (.cells #[.int .i64 2, .slice A2 ps.length c2, .slice A3 rs.length c3, .slice A4 fs.length c4] 27) := ⟨_, rfl⟩
  have hB0 : Below w.heap.size w W0 := by rw [hW0]; exact (Below.refl _ _).alloc (Nat.le_refl _) _
  have HI : Hid (Q = Made (95 :: Tb.putList Tb.putField fs) w) := Lib.hid hQ
  have HLF := Lib.hid (Tb.putList_len Tb.putField 12 fs hsf fun x hx => Tb.putField_len (hpf x hx))
  have HXF := Lib.hid (Tb.putList_lt Tb.putField Tb.putField_lt fs)
  have CF : Hid (∀ W, Below W0.heap.size W0 W → Calls Tryd.prog 156 #[.slice A4 fs.length c4, .func (.func 157) #[] #[]] W (Made (Tb.putList Tb.putField fs) W)) :=
    Lib.hid fun W hW => have h1 := hB0.trans (hW.mono hB0.size); putList_f fs A4 c4 W (hT.below h1) hsf hpf ((s4.below h1).more h1.size)
  generalize Tb.putList Tb.putField fs = lf at HI HLF HXF CF
  clear hpf
  have HB0 := Lib.hid hB0
  have HW0 := Lib.hid hW0
  have HO0 : Hid (Own W0.heap.size (W0.alloc (.cells #[.int .u8 ((95 : Nat) : Int)] 5)) (.slice (some ⟨w.heap.size + 1, 0, none⟩) 1 1) [95]) := Lib.hid (by have h := Own.lit1 W0 (Nat.le_refl _) 95; rw [show W0.heap.size = w.heap.size + 1 by rw [hW0]; simp] at h ⊢; exact h)
  have HB1 : Hid (∀ o, Below W0.heap.size W0 (W0.alloc o)) := Lib.hid fun o => (Below.refl _ _).alloc (Nat.le_refl _) _
  clear s4 hsf hp hT hQ hW0 hB0
  go_enter Tryd.func125, Tryd.ntmps125
  go_wp2_with fail
  rw [← HW0.out]
  go_wp2_with (first
    | ((with_reducible refine (CF.out _ (HB1.out _)).mono ?_); rintro e w2 ⟨v2, rfl, ho, hb⟩; obtain ⟨A5, c5, rfl, hy, -⟩ := ho.bs HXF.out; have HY := Lib.hid hy; have HO2 := Lib.hid (HO0.out.below hb); have HB2 : Hid (Below W0.heap.size W0 w2) := Lib.hid ((HB1.out _).trans (hb.mono (HB1.out _).size)); clear ho hb hy)
    | (at_builtin; refine cat_slice rfl _ _ rfl _ lf lf.length rfl rfl HO2.out HY.out HB2.out.size (lf.length + 1) (by have := HLF.out; omega) (Nat.add_comm 1 lf.length) ?_; intro A7 c7 w5 ho2 hg2; have HO5 := Lib.hid ho2; have HB5 := Lib.hid (HO2.out.grown hg2 (Nat.le_refl _) HB2.out.size HB2.out); clear ho2 hg2))
  rw [HI.out]
  exact ⟨_, rfl, HO5.out.base HB0.out.size, below_trans HB0.out HB5.out⟩
set_option maxHeartbeats 4000000 in
theorem putComp_array (c : Cp) (hk : c.k = 3) (v : Value) (w : World) (hT : Tab6 w) (h : IsComp w w.heap.size v c) (hS : SmallC c) (hp : Kd.pComp c = true) : Calls Tryd.prog 125 #[v] w (Made (Tb.putComp c) w) := by
  obtain ⟨Q, hQ⟩ : ∃ Q : Ending → World → Prop, Q = Made (Tb.putComp c) w := ⟨_, rfl⟩
  rw [← hQ]
  obtain ⟨A2, c2, A3, c3, A4, c4, rfl, s2, s3, s4⟩ := h
  obtain ⟨k, ps, rs, fs⟩ := c
  obtain ⟨hsp, hsr, hsf⟩ := hS
  dsimp only at hk hsp hsr hsf s2 s3 s4 ⊢
  subst hk
  clear s2 s3 hsp hsr
  have hpf : fs.length = 1 ∧ ∀ x ∈ fs, Kd.pField x = true := by
    unfold Kd.pComp at hp
    dsimp only at hp
    rw [if_neg (by decide), if_neg (by decide), if_pos rfl] at hp
    simp only [Bool.and_eq_true, List.all_eq_true, decide_eq_true_eq] at hp
    exact ⟨hp.2.1, hp.2.2⟩
  obtain ⟨f, rfl⟩ : ∃ f, fs = [f] := by
    match fs, hpf.1 with
    | [f], _ => exact ⟨f, rfl⟩
  have hpf := hpf.2 f (by simp)
  obtain ⟨b, off, rfl, hb, hc⟩ := s4.2.2 (by simp)
  obtain ⟨W0, hW0⟩ : ∃ W0, W0 = w.alloc (.cells #[.int .i64 3, .slice A2 ps.length c2, .slice A3 rs.length c3, .slice (some ⟨b, off, none⟩) 1 c4] 27) := ⟨_, rfl⟩
  have hB0 : Below w.heap.size w W0 := by rw [hW0]; exact (Below.refl _ _).alloc (Nat.le_refl _) _
  have g0 := hc 0 (by simp) 0 _ rfl
  have g1 := hc 0 (by simp) 1 _ rfl
  have g2 := hc 0 (by simp) 2 _ rfl
  have g3 := hc 0 (by simp) 3 _ rfl
  have g4 := hc 0 (by simp) 4 _ rfl
  have g5 := hc 0 (by simp) 5 _ rfl
  simp only [Nat.zero_mul, Nat.add_zero, List.getElem_cons_zero] at g0 g1 g2 g3 g4 g5
  have HI : Hid (Q = Made (94 :: Tb.putField f) w) := Lib.hid hQ
  have HLF := Lib.hid (Tb.putField_len hpf)
  have HXF := Lib.hid (Tb.putField_lt f)
  have CF : Hid (∀ W, Below W0.heap.size W0 W → Calls Tryd.prog 157 #[f.val] W (Made (Tb.putField f) W)) :=
    Lib.hid fun W hW => have h1 := hB0.trans (hW.mono hB0.size); putField_any f hpf W (hT.below h1)
  generalize Tb.putField f = lf at HI HLF HXF CF
  clear hpf hc
  have HB0 := Lib.hid hB0
  have HW0 := Lib.hid hW0
  have HO0 : Hid (Own W0.heap.size (W0.alloc (.cells #[.int .u8 ((94 : Nat) : Int)] 5)) (.slice (some ⟨w.heap.size + 1, 0, none⟩) 1 1) [94]) := Lib.hid (by have h := Own.lit1 W0 (Nat.le_refl _) 94; rw [show W0.heap.size = w.heap.size + 1 by rw [hW0]; simp] at h ⊢; exact h)
  have HB1 : Hid (∀ o, Below W0.heap.size W0 (W0.alloc o)) := Lib.hid fun o => (Below.refl _ _).alloc (Nat.le_refl _) _
  clear s4 hsf hp hT hQ hW0 hB0
  go_enter Tryd.func125, Tryd.ntmps125
  go_wp2_with fail
  rw [← HW0.out]
  go_wp2_with (first
    | ((with_reducible refine (CF.out _ (HB1.out _)).mono ?_); rintro e w2 ⟨v2, rfl, ho, hb⟩; obtain ⟨A5, c5, rfl, hy, -⟩ := ho.bs HXF.out; have HY := Lib.hid hy; have HO2 := Lib.hid (HO0.out.below hb); have HB2 : Hid (Below W0.heap.size W0 w2) := Lib.hid ((HB1.out _).trans (hb.mono (HB1.out _).size)); clear ho hb hy)
    | (at_builtin; refine cat_slice rfl _ _ rfl _ lf lf.length rfl rfl HO2.out HY.out HB2.out.size (lf.length + 1) (by have := HLF.out; omega) (Nat.add_comm 1 lf.length) ?_; intro A7 c7 w5 ho2 hg2; have HO5 := Lib.hid ho2; have HB5 := Lib.hid (HO2.out.grown hg2 (Nat.le_refl _) HB2.out.size HB2.out); clear ho2 hg2))
  rw [HI.out]
  exact ⟨_, rfl, HO5.out.base HB0.out.size, below_trans HB0.out HB5.out⟩
theorem putComp_any (c : Cp) (v : Value) (w : World) (hT : Tab6 w) (h : IsComp w w.heap.size v c) (hS : SmallC c) (hp : Kd.pComp c = true) : Calls Tryd.prog 125 #[v] w (Made (Tb.putComp c) w) := by
  by_cases h1 : c.k = 1
  · exact putComp_func c h1 v w hT h hS hp
  by_cases h2 : c.k = 2
  · exact putComp_struct c h2 v w hT h hS hp
  by_cases h3 : c.k = 3
  · exact putComp_array c h3 v w hT h hS hp
  unfold Kd.pComp at hp
  rw [if_neg h1, if_neg h2, if_neg h3] at hp
  cases hp
end Go.Proofs.YtkdhjejchdcipaaDoor
