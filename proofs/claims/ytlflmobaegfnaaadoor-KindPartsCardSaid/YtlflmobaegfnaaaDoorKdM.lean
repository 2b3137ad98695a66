/-
  Layer 4, the document's side: the walk of With.
-/
import Derived.Test.YtlflmobaegfnaaaDoorKdL
namespace Go.Proofs.YtlflmobaegfnaaaDoor
open Go.RowKit
attribute [local go_sem ↓] Go.wp_at_zero Go.wp_at_succ
set_option linter.unusedVariables false
set_option maxRecDepth 100000

set_option maxHeartbeats 4000000 in
theorem with_any (s : Sb) (x : Value) (w : World) (l : List Hp) (A : Option Addr) (c : Nat) (h : IsSub w w.heap.size x s) (hS : Kd.Small s) (hl : Seg 2 Hp.cs w w.heap.size A c l) (hn : (Kd.heaps s).length ≤ l.length) (hm : l.length ≤ 1000) :
    Calls Tryd.prog 17 #[x, .slice A l.length c] w fun e w' => (∃ v, e = .returned v ∧ IsSub w' w'.heap.size v (Kd.withS s l) ∧ NewSub w.heap.size v) ∧ Below w.heap.size w w' := by
  obtain ⟨Q, hQ⟩ : ∃ Q : Ending → World → Prop, Q = (fun e w' => (∃ v, e = .returned v ∧ IsSub w' w'.heap.size v (Kd.withS s l) ∧ NewSub w.heap.size v) ∧ Below w.heap.size w w') := ⟨_, rfl⟩
  rw [← hQ]
  have hQ' := Lib.hid hQ
  clear hQ
  obtain ⟨A1, c1, A2, c2, A3, c3, A4, c4, rfl, s1, s2, s3, s4⟩ := h
  obtain ⟨fin, sups, k, ps, rs, fs⟩ := s
  obtain ⟨la, lp, lr, lf⟩ := hS
  dsimp only at *
  have HS1 := Lib.hid s1
  have HS2 := Lib.hid s2
  have HS3 := Lib.hid s3
  have HS4 := Lib.hid s4
  have HLp := Lib.hid lp
  have HLr := Lib.hid lr
  have HLf := Lib.hid lf
  have HSl := Lib.hid hl
  have HN := Lib.hid hn
  clear s1 s2 s3 s4 lp lr lf hl hn
  obtain ⟨w2, hw2⟩ : ∃ w2, w2 = (w.alloc (.cells #[.bool fin, .slice A1 sups.length c1, .int .i64 k, .slice A2 ps.length c2, .slice A3 rs.length c3, .slice A4 fs.length c4] 29)).alloc (.cells #[.bool false, .slice none 0 0, .int .i64 0, .slice none 0 0, .slice none 0 0, .slice none 0 0] 29) := ⟨_, rfl⟩
  have X1 : Hid (w2.cell? ⟨w.heap.size, 1, none⟩ = some (.slice A1 sups.length c1)) := Lib.hid (by rw [hw2]; simp)
  have X3 : Hid (w2.cell? ⟨w.heap.size, 3, none⟩ = some (.slice A2 ps.length c2)) := Lib.hid (by rw [hw2]; simp)
  have X4 : Hid (w2.cell? ⟨w.heap.size, 4, none⟩ = some (.slice A3 rs.length c3)) := Lib.hid (by rw [hw2]; simp)
  have X5 : Hid (w2.cell? ⟨w.heap.size, 5, none⟩ = some (.slice A4 fs.length c4)) := Lib.hid (by rw [hw2]; simp)
  have RZ0 : Hid (w2.cell? ⟨w.heap.size + 1, 0, none⟩ = some (.bool false)) := Lib.hid (by rw [hw2]; go_simp)
  have RZ1 : Hid (w2.cell? ⟨w.heap.size + 1, 1, none⟩ = some (.slice none 0 0)) := Lib.hid (by rw [hw2]; go_simp)
  have RZ2 : Hid (w2.cell? ⟨w.heap.size + 1, 2, none⟩ = some (.int .i64 0)) := Lib.hid (by rw [hw2]; go_simp)
  have RZ3 : Hid (w2.cell? ⟨w.heap.size + 1, 3, none⟩ = some (.slice none 0 0)) := Lib.hid (by rw [hw2]; go_simp)
  have RZ4 : Hid (w2.cell? ⟨w.heap.size + 1, 4, none⟩ = some (.slice none 0 0)) := Lib.hid (by rw [hw2]; go_simp)
  have RZ5 : Hid (w2.cell? ⟨w.heap.size + 1, 5, none⟩ = some (.slice none 0 0)) := Lib.hid (by rw [hw2]; go_simp)
  have RF : Hid (∀ i, w2.frozen? ⟨w.heap.size + 1, i, none⟩ = false) := Lib.hid (fun i => by rw [hw2]; go_simp)
  have XB : Hid (Below w.heap.size w w2) := Lib.hid (by rw [hw2]; exact ((Below.refl _ _).alloc (Nat.le_refl _) _).alloc (by simp) _)
  have HW2 := Lib.hid hw2
  clear hw2
  go_enter Tryd.func17, Tryd.ntmps17
  go_wp2
  go_loopw [5, 7] (fun a i wr => ∃ (j : Nat) (A' : Option Addr) (c' : Nat), j ≤ sups.length ∧ a = .int .i64 j ∧ i = .int .i64 j ∧
    Out (w.heap.size + 1 + 1) w2 wr fin k (.slice A' j c') (.slice none 0 0) (.slice none 0 0) (.slice none 0 0) (l.take j) [] [] []) (fun _ i _ => sups.length - (intOf i).toNat)
  case atStart =>
    refine ⟨0, none, 0, Nat.zero_le _, rfl, rfl, ?_⟩
    rw [HW2.out]
    refine ⟨by go_simp, by go_simp, by go_simp, by go_simp, by go_simp, by go_simp, fun i => by go_simp, (Below.refl _ _).alloc (by simp) _, OwnG.nil _ _, OwnG.nil _ _, OwnG.nil _ _, OwnG.nil _ _, Ap.none_l _, Ap.none_l _, Ap.none_l _, Ap.none_l _, Ap.none_l _, Ap.none_l _⟩
  case round =>
    obtain ⟨j, A', c', hj, rfl, rfl, hO⟩ := hrel
    have HO := Lib.hid hO
    clear hO
    have hc1 : wr.cell? ⟨w.heap.size, 1, none⟩ = some (.slice A1 sups.length c1) := (HO.out.b.cell (p := ⟨w.heap.size, 1, none⟩) (by show w.heap.size < _; omega)).trans X1.out
    by_cases hlt : j < sups.length
    · have hjl : j < l.length := by have := HN.out; simp [Kd.heaps] at this; omega
      obtain ⟨b, off, rfl, hb, hc⟩ := HSl.out.2.2 (by omega)
      have hW : ∀ o, wr.cell? ⟨b, o, none⟩ = w.cell? ⟨b, o, none⟩ := fun o => (HO.out.b.cell (p := ⟨b, o, none⟩) (by show b < _; omega)).trans (XB.out.cell (p := ⟨b, o, none⟩) hb)
      obtain ⟨x, hx⟩ : ∃ x, x = l[j] := ⟨_, rfl⟩
      have g0 := (hW (off + j * 2 + 0)).trans (hc j hjl 0 _ rfl)
      have g1 := (hW (off + j * 2 + 1)).trans (hc j hjl 1 _ rfl)
      rw [← hx] at g0 g1
      simp only [Nat.add_zero] at g0
      have hx' := Lib.hid hx
      clear hx hc hW
      have hco := HO.out.c1
      have hcoA := (HO.out.alloc (.cells #[.int .i64 x.k, .int .i64 x.n] 39)).c1
      have i0 : (0 : Int) ≤ j := by omega
      have i1 : (j : Int) < l.length := by omega
      have hk1 : Hid (j + 1 < 1000000) := Lib.hid (by omega)
      have hk2 : Hid ((l.take j).length + 1 = j + 1) := Lib.hid (by rw [List.length_take]; omega)
      have HOd := Lib.hid HO.out.drew
      go_wp2_with fail
      go_region_law ((refine step_push elemH (by rfl) _ _ (by rfl) wr.drew _ rfl x _ _ (by rfl) (by rfl) HOd.out.o1 HOd.out.size (j + 1) hk1.out hk2.out rfl ?_; intro A8 c8 w4 hown8 hg8 hr8; obtain ⟨hd1, hf1, hO2⟩ := HOd.out.push1 hown8 hg8 hr8; have HO2 := Lib.hid hO2; clear hown8 hg8 hr8 hO2))
      all_goals
        go_wp2
        go_roundw
        case rel =>
          refine ⟨j + 1, A8, c8, by omega, by go_num, by go_num, ?_⟩
          have h := HO2.out
          rw [hx'.out, ← List.take_succ_eq_append_getElem hjl] at h
          exact h
        case measure => simp [intOf]; omega
    · have hjn : j = sups.length := by omega
      subst hjn
      have hc3 : wr.cell? ⟨w.heap.size, 3, none⟩ = some (.slice A2 ps.length c2) := (HO.out.b.cell (p := ⟨w.heap.size, 3, none⟩) (by show w.heap.size < _; omega)).trans X3.out
      have hc4 : wr.cell? ⟨w.heap.size, 4, none⟩ = some (.slice A3 rs.length c3) := (HO.out.b.cell (p := ⟨w.heap.size, 4, none⟩) (by show w.heap.size < _; omega)).trans X4.out
      obtain ⟨w5, rfl⟩ : ∃ w5, w5 = wr := ⟨_, rfl⟩
      have HO5 := Lib.hid (HO.out.alloc (.cells #[.slice A2 ps.length c2, .slice A3 rs.length c3] 78))
      go_wp2
      refine wp_loop_rounds 3 ?_
      rw [rounds_succ]
      go_wp2
      obtain ⟨M, hM⟩ : ∃ M, M = w5.heap.size := ⟨_, rfl⟩
      have hNM : Hid (w.heap.size + 1 + 1 ≠ M) := Lib.hid (by have := HO.out.size; omega)
      have hA0 : Arr M (w5.alloc (.cells #[.slice A2 ps.length c2, .slice A3 rs.length c3] 78)) (.slice A2 ps.length c2) (.slice A3 rs.length c3) (.slice none 0 0) := ⟨by subst hM; go_simp, by subst hM; go_simp, fun g e => by cases e⟩
      rw [← hM]
      have HA0 := Lib.hid hA0
      have hM' := Lib.hid hM
      clear hM hA0 hlt hj hc3 hc4 hc1
      go_loopw [5, 10] (fun a i wr => ∃ (j : Nat) (B' : Option Addr) (b' : Nat), j ≤ ps.length ∧ a = .int .i64 ((sups.length + (Kd.refs (ps.take j)).length : Nat) : Int) ∧ i = .int .i64 j ∧
        Out (w.heap.size + 1 + 1) w2 wr fin k (.slice A' sups.length c') (.slice B' j b') (.slice none 0 0) (.slice none 0 0) (l.take sups.length) (Kd.withV (ps.take j) (l.drop sups.length)) [] [] ∧
        Arr M wr (.slice A2 ps.length c2) (.slice A3 rs.length c3) (.slice B' j b')) (fun _ i _ => ps.length - (intOf i).toNat)
      case atStart => exact ⟨0, none, 0, Nat.zero_le _, by simp [Kd.refs], rfl, by simpa [Kd.withV] using HO5.out, HA0.out⟩
      case round =>
        obtain ⟨j, B', b', hj, rfl, rfl, hO, hA⟩ := hrel
        have HO := Lib.hid hO
        have HA := Lib.hid hA
        have hm0 := hA.c0
        clear hO hA
        by_cases hlt : j < ps.length
        · obtain ⟨b, off, rfl, hb, hc⟩ := HS2.out.2.2 (by omega)
          have hW : ∀ o, wr.cell? ⟨b, o, none⟩ = w.cell? ⟨b, o, none⟩ := fun o => (HO.out.b.cell (p := ⟨b, o, none⟩) (by show b < _; omega)).trans (XB.out.cell (p := ⟨b, o, none⟩) hb)
          obtain ⟨x, hx⟩ : ∃ x, x = ps[j] := ⟨_, rfl⟩
          have g0 := (hW (off + j * 4 + 0)).trans (hc j hlt 0 _ rfl)
          have g1 := (hW (off + j * 4 + 1)).trans (hc j hlt 1 _ rfl)
          have g2 := (hW (off + j * 4 + 2)).trans (hc j hlt 2 _ rfl)
          have g3 := (hW (off + j * 4 + 3)).trans (hc j hlt 3 _ rfl)
          rw [← hx] at g0 g1 g2 g3
          simp only [Nat.add_zero] at g0
          have hx' := Lib.hid hx
          clear hx hc hW
          obtain ⟨xk, xnu, xh⟩ := x
          dsimp only at g0 g1 g2 g3
          have hp100 := HLp.out
          obtain ⟨n, hn⟩ : ∃ n, sups.length + (Kd.refs (ps.take j)).length = n := ⟨_, rfl⟩
          rw [hn]
          have hn' := Lib.hid hn
          clear hn
          by_cases hk3 : xk = 3
          · subst hk3
            have hrt : Hid ((Kd.refs (ps.take (j + 1))).length = (Kd.refs (ps.take j)).length + 1) := Lib.hid (by rw [Kd.refs_take ps j hlt, ← hx'.out]; simp)
            have hnl : n < l.length := by
              have h1 := HN.out
              rw [Kd.heads] at h1
              have h2 := Kd.refs_take_le ps (j + 1)
              have h3 := hrt.out
              have h5 := hn'.out
              dsimp only at h1
              omega
            obtain ⟨d, doff, rfl, hd, hdc⟩ := HSl.out.2.2 (by omega)
            have hW : ∀ o, wr.cell? ⟨d, o, none⟩ = w.cell? ⟨d, o, none⟩ := fun o => (HO.out.b.cell (p := ⟨d, o, none⟩) (by show d < _; omega)).trans (XB.out.cell (p := ⟨d, o, none⟩) hd)
            obtain ⟨y, hy⟩ : ∃ y, y = l[n] := ⟨_, rfl⟩
            have k0 := (hW (doff + n * 2 + 0)).trans (hdc n hnl 0 _ rfl)
            have k1 := (hW (doff + n * 2 + 1)).trans (hdc n hnl 1 _ rfl)
            rw [← hy] at k0 k1
            simp only [Nat.add_zero] at k0
            have hy' := Lib.hid hy
            clear hy hdc hW
            have hd' : d < wr.heap.size := by have := HO.out.size; omega
            have hNlt : w.heap.size + 1 + 1 < wr.heap.size := HO.out.size
            have hco := HO.out.c3
            have HOa := Lib.hid (HO.out.alloc (.cells #[.int .i64 3, .bool xnu, .int .i64 y.k, .int .i64 y.n] 46))
            have HAa := Lib.hid (HA.out.alloc (.cells #[.int .i64 3, .bool xnu, .int .i64 y.k, .int .i64 y.n] 46))
            have hlen := Lib.hid (show (Kd.withV (ps.take j) (l.drop sups.length)).length + 1 = j + 1 by rw [Kd.withV_len, List.length_take]; omega)
            go_wp2_with (at_builtin; refine push_at elemV rfl _ _ rfl _ _ (by simp) ⟨3, xnu, y⟩ _ _ rfl rfl HOa.out.o3 HOa.out.size (j + 1) (by have := HLp.out; omega) hlen.out rfl ?_; intro A8 c8 w4 hown8 hg8 hr8; obtain ⟨hd1, hf1, hO2⟩ := HOa.out.push3 hown8 hg8 hr8; have HO2 := Lib.hid hO2; have HA2 := Lib.hid (HAa.out.push hg8 hr8 hNM.out 3 (.slice A8 (j + 1) c8)); clear hown8 hg8 hr8 hO2)
            go_roundw
            case rel =>
              refine ⟨j + 1, A8, c8, by omega, by rw [hrt.out, ← Nat.add_assoc, hn'.out]; go_num, by go_num, ?_, HA2.out⟩
              have h := HO2.out
              have e : Kd.setV ⟨3, xnu, xh⟩ ((l.drop sups.length).drop (Kd.refs (ps.take j)).length) = ⟨3, xnu, y⟩ := by
                unfold Kd.setV
                rw [List.drop_drop, hn'.out, List.drop_eq_getElem_cons hnl, ← hy'.out]; rfl
              rw [List.take_succ_eq_append_getElem hlt, Kd.withV_snoc, ← hx'.out, e]
              exact h
            case measure => simp [intOf]; omega
          · have hrt : Hid ((Kd.refs (ps.take (j + 1))).length = (Kd.refs (ps.take j)).length) := Lib.hid (by rw [Kd.refs_take ps j hlt, ← hx'.out]; simp [hk3])
            have hNlt : w.heap.size + 1 + 1 < wr.heap.size := HO.out.size
            have hco := HO.out.c3
            have hk4 : (xk == 3) = false := by simpa using hk3
            have HOa := Lib.hid (HO.out.alloc (.cells #[.int .i64 xk, .bool xnu, .int .i64 xh.k, .int .i64 xh.n] 46))
            have HAa := Lib.hid (HA.out.alloc (.cells #[.int .i64 xk, .bool xnu, .int .i64 xh.k, .int .i64 xh.n] 46))
            have hlen := Lib.hid (show (Kd.withV (ps.take j) (l.drop sups.length)).length + 1 = j + 1 by rw [Kd.withV_len, List.length_take]; omega)
            go_wp2_with (at_builtin; refine push_at elemV rfl _ _ rfl _ _ (by simp) ⟨xk, xnu, xh⟩ _ _ rfl rfl HOa.out.o3 HOa.out.size (j + 1) (by have := HLp.out; omega) hlen.out rfl ?_; intro A8 c8 w4 hown8 hg8 hr8; obtain ⟨hd1, hf1, hO2⟩ := HOa.out.push3 hown8 hg8 hr8; have HO2 := Lib.hid hO2; have HA2 := Lib.hid (HAa.out.push hg8 hr8 hNM.out 3 (.slice A8 (j + 1) c8)); clear hown8 hg8 hr8 hO2)
            go_roundw
            case rel =>
              refine ⟨j + 1, A8, c8, by omega, by rw [hrt.out, hn'.out], by go_num, ?_, HA2.out⟩
              have h := HO2.out
              have e : Kd.setV ⟨xk, xnu, xh⟩ ((l.drop sups.length).drop (Kd.refs (ps.take j)).length) = ⟨xk, xnu, xh⟩ := by
                unfold Kd.setV
                rw [if_neg hk3]
              rw [List.take_succ_eq_append_getElem hlt, Kd.withV_snoc, ← hx'.out, e]
              exact h
            case measure => simp [intOf]; omega
        · have hjn : j = ps.length := by omega
          subst hjn
          rw [List.take_length]
          have hO := HO.out
          rw [List.take_length] at hO
          go_wp2
          rw [rounds_succ]
          obtain ⟨n1, hn1e⟩ : ∃ n1, sups.length + (Kd.refs ps).length = n1 := ⟨_, rfl⟩
          rw [hn1e]
          have hn1 := Lib.hid hn1e
          clear hn1e
          obtain ⟨w6, rfl⟩ : ∃ w6, w6 = wr := ⟨_, rfl⟩
          obtain ⟨B3, rfl⟩ : ∃ B3, B3 = B' := ⟨_, rfl⟩
          obtain ⟨b3, rfl⟩ : ∃ b3, b3 = b' := ⟨_, rfl⟩
          have HO6 := Lib.hid hO
          have HA6 : Hid (Arr M w6 (.slice A2 ps.length c2) (.slice A3 rs.length c3) (.slice none 0 0)) := Lib.hid ⟨HA.out.c0, HA.out.c1, fun g e => by cases e⟩
          clear hO hlt hj
          go_wp2
          go_loopw [5, 10] (fun a i wr => ∃ (j : Nat) (B' : Option Addr) (b' : Nat), j ≤ rs.length ∧ a = .int .i64 ((n1 + (Kd.refs (rs.take j)).length : Nat) : Int) ∧ i = .int .i64 j ∧
            Out (w.heap.size + 1 + 1) w2 wr fin k (.slice A' sups.length c') (.slice B3 ps.length b3) (.slice B' j b') (.slice none 0 0) (l.take sups.length) (Kd.withV ps (l.drop sups.length)) (Kd.withV (rs.take j) (l.drop n1)) [] ∧
            Arr M wr (.slice A2 ps.length c2) (.slice A3 rs.length c3) (.slice B' j b')) (fun _ i _ => rs.length - (intOf i).toNat)
          case atStart => exact ⟨0, none, 0, Nat.zero_le _, by simp [Kd.refs], rfl, by simpa [Kd.withV] using HO6.out, HA6.out⟩
          case round =>
            obtain ⟨j, B', b', hj, rfl, rfl, hO, hA⟩ := hrel
            have HO := Lib.hid hO
            have HA := Lib.hid hA
            have hm0 := hA.c1
            clear hO hA
            by_cases hlt : j < rs.length
            · obtain ⟨b, off, rfl, hb, hc⟩ := HS3.out.2.2 (by omega)
              have hW : ∀ o, wr.cell? ⟨b, o, none⟩ = w.cell? ⟨b, o, none⟩ := fun o => (HO.out.b.cell (p := ⟨b, o, none⟩) (by show b < _; omega)).trans (XB.out.cell (p := ⟨b, o, none⟩) hb)
              obtain ⟨x, hx⟩ : ∃ x, x = rs[j] := ⟨_, rfl⟩
              have g0 := (hW (off + j * 4 + 0)).trans (hc j hlt 0 _ rfl)
              have g1 := (hW (off + j * 4 + 1)).trans (hc j hlt 1 _ rfl)
              have g2 := (hW (off + j * 4 + 2)).trans (hc j hlt 2 _ rfl)
              have g3 := (hW (off + j * 4 + 3)).trans (hc j hlt 3 _ rfl)
              rw [← hx] at g0 g1 g2 g3
              simp only [Nat.add_zero] at g0
              have hx' := Lib.hid hx
              clear hx hc hW
              obtain ⟨xk, xnu, xh⟩ := x
              dsimp only at g0 g1 g2 g3
              have hp100 := HLr.out
              obtain ⟨n, hn⟩ : ∃ n, n1 + (Kd.refs (rs.take j)).length = n := ⟨_, rfl⟩
              rw [hn]
              have hn' := Lib.hid hn
              clear hn
              by_cases hk3 : xk = 3
              · subst hk3
                have hrt : Hid ((Kd.refs (rs.take (j + 1))).length = (Kd.refs (rs.take j)).length + 1) := Lib.hid (by rw [Kd.refs_take rs j hlt, ← hx'.out]; simp)
                have hnl : n < l.length := by
                  have h1 := HN.out
                  rw [Kd.heads] at h1
                  have h2 := Kd.refs_take_le rs (j + 1)
                  have h3 := hrt.out
                  have h5 := hn'.out
                  have h4 := hn1.out
                  dsimp only at h1
                  omega
                obtain ⟨d, doff, rfl, hd, hdc⟩ := HSl.out.2.2 (by omega)
                have hW : ∀ o, wr.cell? ⟨d, o, none⟩ = w.cell? ⟨d, o, none⟩ := fun o => (HO.out.b.cell (p := ⟨d, o, none⟩) (by show d < _; omega)).trans (XB.out.cell (p := ⟨d, o, none⟩) hd)
                obtain ⟨y, hy⟩ : ∃ y, y = l[n] := ⟨_, rfl⟩
                have k0 := (hW (doff + n * 2 + 0)).trans (hdc n hnl 0 _ rfl)
                have k1 := (hW (doff + n * 2 + 1)).trans (hdc n hnl 1 _ rfl)
                rw [← hy] at k0 k1
                simp only [Nat.add_zero] at k0
                have hy' := Lib.hid hy
                clear hy hdc hW
                have hd' : d < wr.heap.size := by have := HO.out.size; omega
                have hNlt : w.heap.size + 1 + 1 < wr.heap.size := HO.out.size
                have hco := HO.out.c4
                have HOa := Lib.hid (HO.out.alloc (.cells #[.int .i64 3, .bool xnu, .int .i64 y.k, .int .i64 y.n] 46))
                have HAa := Lib.hid (HA.out.alloc (.cells #[.int .i64 3, .bool xnu, .int .i64 y.k, .int .i64 y.n] 46))
                have hlen := Lib.hid (show (Kd.withV (rs.take j) (l.drop n1)).length + 1 = j + 1 by rw [Kd.withV_len, List.length_take]; omega)
                go_wp2_with (at_builtin; refine push_at elemV rfl _ _ rfl _ _ (by simp) ⟨3, xnu, y⟩ _ _ rfl rfl HOa.out.o4 HOa.out.size (j + 1) (by have := HLr.out; omega) hlen.out rfl ?_; intro A8 c8 w4 hown8 hg8 hr8; obtain ⟨hd1, hf1, hO2⟩ := HOa.out.push4 hown8 hg8 hr8; have HO2 := Lib.hid hO2; have HA2 := Lib.hid (HAa.out.push hg8 hr8 hNM.out 4 (.slice A8 (j + 1) c8)); clear hown8 hg8 hr8 hO2)
                go_roundw
                case rel =>
                  refine ⟨j + 1, A8, c8, by omega, by rw [hrt.out, ← Nat.add_assoc, hn'.out]; go_num, by go_num, ?_, HA2.out⟩
                  have h := HO2.out
                  have e : Kd.setV ⟨3, xnu, xh⟩ ((l.drop n1).drop (Kd.refs (rs.take j)).length) = ⟨3, xnu, y⟩ := by
                    unfold Kd.setV
                    rw [List.drop_drop, hn'.out, List.drop_eq_getElem_cons hnl, ← hy'.out]; rfl
                  rw [List.take_succ_eq_append_getElem hlt, Kd.withV_snoc, ← hx'.out, e]
                  exact h
                case measure => simp [intOf]; omega
              · have hrt : Hid ((Kd.refs (rs.take (j + 1))).length = (Kd.refs (rs.take j)).length) := Lib.hid (by rw [Kd.refs_take rs j hlt, ← hx'.out]; simp [hk3])
                have hNlt : w.heap.size + 1 + 1 < wr.heap.size := HO.out.size
                have hco := HO.out.c4
                have hk4 : (xk == 3) = false := by simpa using hk3
                have HOa := Lib.hid (HO.out.alloc (.cells #[.int .i64 xk, .bool xnu, .int .i64 xh.k, .int .i64 xh.n] 46))
                have HAa := Lib.hid (HA.out.alloc (.cells #[.int .i64 xk, .bool xnu, .int .i64 xh.k, .int .i64 xh.n] 46))
                have hlen := Lib.hid (show (Kd.withV (rs.take j) (l.drop n1)).length + 1 = j + 1 by rw [Kd.withV_len, List.length_take]; omega)
                go_wp2_with (at_builtin; refine push_at elemV rfl _ _ rfl _ _ (by simp) ⟨xk, xnu, xh⟩ _ _ rfl rfl HOa.out.o4 HOa.out.size (j + 1) (by have := HLr.out; omega) hlen.out rfl ?_; intro A8 c8 w4 hown8 hg8 hr8; obtain ⟨hd1, hf1, hO2⟩ := HOa.out.push4 hown8 hg8 hr8; have HO2 := Lib.hid hO2; have HA2 := Lib.hid (HAa.out.push hg8 hr8 hNM.out 4 (.slice A8 (j + 1) c8)); clear hown8 hg8 hr8 hO2)
                go_roundw
                case rel =>
                  refine ⟨j + 1, A8, c8, by omega, by rw [hrt.out, hn'.out], by go_num, ?_, HA2.out⟩
                  have h := HO2.out
                  have e : Kd.setV ⟨xk, xnu, xh⟩ ((l.drop n1).drop (Kd.refs (rs.take j)).length) = ⟨xk, xnu, xh⟩ := by
                    unfold Kd.setV
                    rw [if_neg hk3]
                  rw [List.take_succ_eq_append_getElem hlt, Kd.withV_snoc, ← hx'.out, e]
                  exact h
                case measure => simp [intOf]; omega
            · have hjn : j = rs.length := by omega
              subst hjn
              rw [List.take_length]
              have hO := HO.out
              rw [List.take_length] at hO
              go_wp2
              rw [rounds_succ]
              obtain ⟨n2, hn2e⟩ : ∃ n2, n1 + (Kd.refs rs).length = n2 := ⟨_, rfl⟩
              rw [hn2e]
              have hn2 := Lib.hid hn2e
              clear hn2e
              obtain ⟨w7, rfl⟩ : ∃ w7, w7 = wr := ⟨_, rfl⟩
              obtain ⟨B4, rfl⟩ : ∃ B4, B4 = B' := ⟨_, rfl⟩
              obtain ⟨b4, rfl⟩ : ∃ b4, b4 = b' := ⟨_, rfl⟩
              have HO7 := Lib.hid hO
              clear hO hlt hj
              go_wp2
              go_loopw [5, 12] (fun a i wr => ∃ (j : Nat) (B' : Option Addr) (b' : Nat), j ≤ fs.length ∧ a = .int .i64 ((n2 + (Kd.refs ((fs.map Fd.v).take j)).length : Nat) : Int) ∧ i = .int .i64 j ∧
                Out (w.heap.size + 1 + 1) w2 wr fin k (.slice A' sups.length c') (.slice B3 ps.length b3) (.slice B4 rs.length b4) (.slice B' j b') (l.take sups.length) (Kd.withV ps (l.drop sups.length)) (Kd.withV rs (l.drop n1)) (Kd.withF (fs.take j) (l.drop n2))) (fun _ i _ => fs.length - (intOf i).toNat)
              case atStart => exact ⟨0, none, 0, Nat.zero_le _, by simp [Kd.refs], rfl, by simpa [Kd.withF] using HO7.out⟩
              case round =>
                obtain ⟨j, B', b', hj, rfl, rfl, hO⟩ := hrel
                have HO := Lib.hid hO
                have hc5 : wr.cell? ⟨w.heap.size, 5, none⟩ = some (.slice A4 fs.length c4) := (HO.out.b.cell (p := ⟨w.heap.size, 5, none⟩) (by show w.heap.size < _; omega)).trans X5.out
                clear hO
                by_cases hlt : j < fs.length
                · obtain ⟨b, off, rfl, hb, hc⟩ := HS4.out.2.2 (by omega)
                  have hW : ∀ o, wr.cell? ⟨b, o, none⟩ = w.cell? ⟨b, o, none⟩ := fun o => (HO.out.b.cell (p := ⟨b, o, none⟩) (by show b < _; omega)).trans (XB.out.cell (p := ⟨b, o, none⟩) hb)
                  obtain ⟨x, hx⟩ : ∃ x, x = fs[j] := ⟨_, rfl⟩
                  have g0 := (hW (off + j * 6 + 0)).trans (hc j hlt 0 _ rfl)
                  have g1 := (hW (off + j * 6 + 1)).trans (hc j hlt 1 _ rfl)
                  have g2 := (hW (off + j * 6 + 2)).trans (hc j hlt 2 _ rfl)
                  have g3 := (hW (off + j * 6 + 3)).trans (hc j hlt 3 _ rfl)
                  have g4 := (hW (off + j * 6 + 4)).trans (hc j hlt 4 _ rfl)
                  have g5 := (hW (off + j * 6 + 5)).trans (hc j hlt 5 _ rfl)
                  rw [← hx] at g0 g1 g2 g3 g4 g5
                  simp only [Nat.add_zero] at g0
                  have hx' := Lib.hid hx
                  have hxm : Hid ((fs.map Fd.v)[j]'(by simpa using hlt) = x.v) := Lib.hid (by rw [List.getElem_map, hx])
                  clear hx hc hW
                  obtain ⟨xp, ⟨xk, xnu, xh⟩, xm⟩ := x
                  dsimp only at g0 g1 g2 g3 g4 g5 hxm
                  have hp100 := HLf.out
                  obtain ⟨n, hn⟩ : ∃ n, n2 + (Kd.refs ((fs.map Fd.v).take j)).length = n := ⟨_, rfl⟩
                  rw [hn]
                  have hn' := Lib.hid hn
                  clear hn
                  have hjm : Hid (j < (fs.map Fd.v).length) := Lib.hid (by simpa using hlt)
                  by_cases hk3 : xk = 3
                  · subst hk3
                    have hrt : Hid ((Kd.refs ((fs.map Fd.v).take (j + 1))).length = (Kd.refs ((fs.map Fd.v).take j)).length + 1) := Lib.hid (by rw [Kd.refs_take _ j hjm.out, hxm.out]; simp)
                    have hnl : n < l.length := by
                      have h1 := HN.out
                      rw [Kd.heads] at h1
                      have h2 := Kd.refs_take_le (fs.map Fd.v) (j + 1)
                      have h3 := hrt.out
                      have h5 := hn'.out
                      have h4 := hn1.out
                      have h6 := hn2.out
                      dsimp only at h1
                      omega
                    obtain ⟨d, doff, rfl, hd, hdc⟩ := HSl.out.2.2 (by omega)
                    have hW : ∀ o, wr.cell? ⟨d, o, none⟩ = w.cell? ⟨d, o, none⟩ := fun o => (HO.out.b.cell (p := ⟨d, o, none⟩) (by show d < _; omega)).trans (XB.out.cell (p := ⟨d, o, none⟩) hd)
                    obtain ⟨y, hy⟩ : ∃ y, y = l[n] := ⟨_, rfl⟩
                    have k0 := (hW (doff + n * 2 + 0)).trans (hdc n hnl 0 _ rfl)
                    have k1 := (hW (doff + n * 2 + 1)).trans (hdc n hnl 1 _ rfl)
                    rw [← hy] at k0 k1
                    simp only [Nat.add_zero] at k0
                    have hy' := Lib.hid hy
                    clear hy hdc hW
                    have hd' : d < wr.heap.size := by have := HO.out.size; omega
                    have hNlt : w.heap.size + 1 + 1 < wr.heap.size := HO.out.size
                    have hco := HO.out.c5
                    have HOa := Lib.hid (HO.out.alloc (.cells #[.int .i64 xp, .int .i64 3, .bool xnu, .int .i64 y.k, .int .i64 y.n, .bool xm] 50))
                    have hlen := Lib.hid (show (Kd.withF (fs.take j) (l.drop n2)).length + 1 = j + 1 by rw [Kd.withF_len, List.length_take]; omega)
                    go_wp2_with (at_builtin; refine push_at elemF rfl _ _ rfl _ _ (by simp) ⟨xp, ⟨3, xnu, y⟩, xm⟩ _ _ rfl rfl HOa.out.o5 HOa.out.size (j + 1) (by have := HLf.out; omega) hlen.out rfl ?_; intro A8 c8 w4 hown8 hg8 hr8; obtain ⟨hd1, hf1, hO2⟩ := HOa.out.push5 hown8 hg8 hr8; have HO2 := Lib.hid hO2; clear hown8 hg8 hr8 hO2)
                    go_roundw
                    case rel =>
                      refine ⟨j + 1, A8, c8, by omega, by rw [hrt.out, ← Nat.add_assoc, hn'.out]; go_num, by go_num, ?_⟩
                      have h := HO2.out
                      have e : Kd.setF ⟨xp, ⟨3, xnu, xh⟩, xm⟩ ((l.drop n2).drop (Kd.refs ((fs.take j).map Fd.v)).length) = ⟨xp, ⟨3, xnu, y⟩, xm⟩ := by
                        unfold Kd.setF Kd.setV
                        rw [← List.map_take] at hn'
                        rw [List.drop_drop, hn'.out, List.drop_eq_getElem_cons hnl, ← hy'.out]; rfl
                      rw [List.take_succ_eq_append_getElem hlt, Kd.withF_snoc, ← hx'.out, e]
                      exact h
                    case measure => simp [intOf]; omega
                  · have hrt : Hid ((Kd.refs ((fs.map Fd.v).take (j + 1))).length = (Kd.refs ((fs.map Fd.v).take j)).length) := Lib.hid (by rw [Kd.refs_take _ j hjm.out, hxm.out]; simp [hk3])
                    have hNlt : w.heap.size + 1 + 1 < wr.heap.size := HO.out.size
                    have hco := HO.out.c5
                    have hk4 : (xk == 3) = false := by simpa using hk3
                    have HOa := Lib.hid (HO.out.alloc (.cells #[.int .i64 xp, .int .i64 xk, .bool xnu, .int .i64 xh.k, .int .i64 xh.n, .bool xm] 50))
                    have hlen := Lib.hid (show (Kd.withF (fs.take j) (l.drop n2)).length + 1 = j + 1 by rw [Kd.withF_len, List.length_take]; omega)
                    go_wp2_with (at_builtin; refine push_at elemF rfl _ _ rfl _ _ (by simp) ⟨xp, ⟨xk, xnu, xh⟩, xm⟩ _ _ rfl rfl HOa.out.o5 HOa.out.size (j + 1) (by have := HLf.out; omega) hlen.out rfl ?_; intro A8 c8 w4 hown8 hg8 hr8; obtain ⟨hd1, hf1, hO2⟩ := HOa.out.push5 hown8 hg8 hr8; have HO2 := Lib.hid hO2; clear hown8 hg8 hr8 hO2)
                    go_roundw
                    case rel =>
                      refine ⟨j + 1, A8, c8, by omega, by rw [hrt.out, hn'.out], by go_num, ?_⟩
                      have h := HO2.out
                      have e : Kd.setF ⟨xp, ⟨xk, xnu, xh⟩, xm⟩ ((l.drop n2).drop (Kd.refs ((fs.take j).map Fd.v)).length) = ⟨xp, ⟨xk, xnu, xh⟩, xm⟩ := by
                        unfold Kd.setF Kd.setV
                        rw [if_neg hk3]
                      rw [List.take_succ_eq_append_getElem hlt, Kd.withF_snoc, ← hx'.out, e]
                      exact h
                    case measure => simp [intOf]; omega
                · have hjn : j = fs.length := by omega
                  subst hjn
                  have hO := HO.out
                  rw [List.take_length] at hO
                  have hN1 : Hid (w.heap.size + 1 < w.heap.size + 1 + 1) := Lib.hid (by omega)
                  have z0 := (HO.out.b.cell (p := ⟨w.heap.size + 1, 0, none⟩) hN1.out).trans RZ0.out
                  have z1 := (HO.out.b.cell (p := ⟨w.heap.size + 1, 1, none⟩) hN1.out).trans RZ1.out
                  have z2 := (HO.out.b.cell (p := ⟨w.heap.size + 1, 2, none⟩) hN1.out).trans RZ2.out
                  have z3 := (HO.out.b.cell (p := ⟨w.heap.size + 1, 3, none⟩) hN1.out).trans RZ3.out
                  have z4 := (HO.out.b.cell (p := ⟨w.heap.size + 1, 4, none⟩) hN1.out).trans RZ4.out
                  have z5 := (HO.out.b.cell (p := ⟨w.heap.size + 1, 5, none⟩) hN1.out).trans RZ5.out
                  have zf : ∀ i, wr.frozen? ⟨w.heap.size + 1, i, none⟩ = false := fun i => (HO.out.b.frozen (p := ⟨w.heap.size + 1, i, none⟩) hN1.out).trans (RF.out i)
                  have q0 := hO.c0
                  have q1 := hO.c1
                  have q2 := hO.c2
                  have q3 := hO.c3
                  have q4 := hO.c4
                  have q5 := hO.c5
                  have HO8 := Lib.hid hO
                  clear hO
                  go_wp2
                  have hR : w.heap.size + 1 < w.heap.size + 1 + 1 := hN1.out
                  have o1 := own_setR (own_setR (own_setR (own_setR (own_setR (own_setR (u := .bool fin) HO8.out.o1 hR 0) hR 1 (u := .slice A' sups.length c')) hR 2 (u := .int .i64 k)) hR 3 (u := .slice B3 ps.length b3)) hR 4 (u := .slice B4 rs.length b4)) hR 5 (u := .slice B' fs.length b')
                  have o3 := own_setR (own_setR (own_setR (own_setR (own_setR (own_setR (u := .bool fin) HO8.out.o3 hR 0) hR 1 (u := .slice A' sups.length c')) hR 2 (u := .int .i64 k)) hR 3 (u := .slice B3 ps.length b3)) hR 4 (u := .slice B4 rs.length b4)) hR 5 (u := .slice B' fs.length b')
                  have o4 := own_setR (own_setR (own_setR (own_setR (own_setR (own_setR (u := .bool fin) HO8.out.o4 hR 0) hR 1 (u := .slice A' sups.length c')) hR 2 (u := .int .i64 k)) hR 3 (u := .slice B3 ps.length b3)) hR 4 (u := .slice B4 rs.length b4)) hR 5 (u := .slice B' fs.length b')
                  have o5 := own_setR (own_setR (own_setR (own_setR (own_setR (own_setR (u := .bool fin) HO8.out.o5 hR 0) hR 1 (u := .slice A' sups.length c')) hR 2 (u := .int .i64 k)) hR 3 (u := .slice B3 ps.length b3)) hR 4 (u := .slice B4 rs.length b4)) hR 5 (u := .slice B' fs.length b')
                  have hBe := HO8.out.b
                  refine bodyPost_ret (v := .agg #[.bool fin, .slice A' sups.length c', .int .i64 k, .slice B3 ps.length b3, .slice B4 rs.length b4, .slice B' fs.length b']) (by simp [results, Tryd.results17, go_sem, z0, z1, z2, z3, z4, z5]) rfl ?_
                  rw [hQ'.out]
                  obtain ⟨A1', c1', e1, s1⟩ := o1.seg elemH
                  obtain ⟨A3', c3', e3, s3⟩ := o3.seg elemV
                  obtain ⟨A4', c4', e4, s4⟩ := o4.seg elemV
                  obtain ⟨A5', c5', e5, s5⟩ := o5.seg elemF
                  have hl1 : sups.length ≤ l.length := by have h1 := HN.out; rw [Kd.heads] at h1; dsimp only at h1; omega
                  have t1 : (l.take sups.length).length = sups.length := by rw [List.length_take]; omega
                  rw [t1] at e1
                  rw [Kd.withV_len] at e3 e4
                  rw [Kd.withF_len] at e5
                  injection e1 with e1 _ e1'
                  injection e3 with e3 _ e3'
                  injection e4 with e4 _ e4'
                  injection e5 with e5 _ e5'
                  subst e1 e1' e3 e3' e4 e4' e5 e5'
                  refine ⟨⟨_, rfl, ⟨A', c', B3, b3, B4, b4, B', b', ?_, ?_, ?_, ?_, ?_⟩, NewSub.mk (fun g e => ?_) (fun g e => ?_) (fun g e => ?_) (fun g e => ?_)⟩, ?_⟩
                  · simp only [Kd.withS, t1, Kd.withV_len, Kd.withF_len]
                  · exact s1
                  · exact s3
                  · simp only [Kd.withS, hn1.out]; exact s4
                  · simp only [Kd.withS, hn1.out, hn2.out]; exact s5
                  · have := (o1.lt g e).1; omega
                  · have := (o3.lt g e).1; omega
                  · have := (o4.lt g e).1; omega
                  · have := (o5.lt g e).1; omega
                  · exact (((((((XB.out.trans (hBe.mono (by omega))).setCell (p := ⟨w.heap.size + 1, 0, none⟩) (Nat.le_succ _) _).setCell (p := ⟨w.heap.size + 1, 1, none⟩) (Nat.le_succ _) _).setCell (p := ⟨w.heap.size + 1, 2, none⟩) (Nat.le_succ _) _).setCell (p := ⟨w.heap.size + 1, 3, none⟩) (Nat.le_succ _) _).setCell (p := ⟨w.heap.size + 1, 4, none⟩) (Nat.le_succ _) _).setCell (p := ⟨w.heap.size + 1, 5, none⟩) (Nat.le_succ _) _)
end Go.Proofs.YtlflmobaegfnaaaDoor
