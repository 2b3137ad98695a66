/-
  The walk of the statement NameBack: a name that was put is read again, whatever stands ahead and behind.
-/
import Derived.Test.YtkpobcomaocfpaaNmG
namespace Go.Proofs.Ytkpobcomaocfpaa
open Go.RowKit
set_option linter.unusedVariables false

theorem NameBack_out (w : World) (a0 : ByteArray) (A1 : Option Addr) (n1 c1 : Nat) (A2 : Option Addr) (n2 c2 : Nat) (h : 2000 < a0.size ∨ 200 < n1 ∨ 200 < n2) :
    Calls Try.prog 5 #[.string a0, .slice A1 n1 c1, .slice A2 n2 c2] w fun e w' => e = .returned (.bool true) ∧ Below w.heap.size w w' := by
  by_cases h1 : 2000 < a0.size
  · have t1 : (2000 : Int) < (a0.size : Int) := by omega
    clear h h1
    go_enter Try.func5, Try.ntmps5
    go_wp2_with (go_at_call 8; refine (known2_any _).mono ?_; rintro e w1 ⟨rfl, hb1⟩)
    go_ret
    exact ⟨rfl, hb1⟩
  have t1 : (a0.size : Int) ≤ 2000 := by omega
  by_cases h2 : 200 < n1
  · have t2 : (200 : Int) < (n1 : Int) := by omega
    clear h h1 h2
    go_enter Try.func5, Try.ntmps5
    go_wp2_with (go_at_call 8; refine (known2_any _).mono ?_; rintro e w1 ⟨rfl, hb1⟩)
    go_ret
    exact ⟨rfl, hb1⟩
  · have t2 : (n1 : Int) ≤ 200 := by omega
    have t3 : (200 : Int) < (n2 : Int) := by omega
    clear h h1 h2
    go_enter Try.func5, Try.ntmps5
    go_wp2_with (go_at_call 8; refine (known2_any _).mono ?_; rintro e w1 ⟨rfl, hb1⟩)
    go_ret
    exact ⟨rfl, hb1⟩

set_option maxRecDepth 100000 in
set_option maxHeartbeats 1000000 in
theorem NameBack_bad (w : World) (a0 : ByteArray) (A1 : Option Addr) (n1 c1 : Nat) (A2 : Option Addr) (n2 c2 : Nat) (q0 : a0.size ≤ 2000) (q1 : n1 ≤ 200) (q2 : n2 ≤ 200) (hw : Nm.well (bs a0) = false) :
    Calls Try.prog 5 #[.string a0, .slice A1 n1 c1, .slice A2 n2 c2] w fun e w' => e = .returned (.bool true) ∧ Below w.heap.size w w' := by
  have hB : Below w.heap.size w w := Below.refl _ _
  have t1 : (a0.size : Int) ≤ 2000 := by omega
  have t2 : (n1 : Int) ≤ 200 := by omega
  have t3 : (n2 : Int) ≤ 200 := by omega
  have S0 := Lib.hid (small a0.size 2000 (by omega) (by omega))
  have H0 := Lib.hid hw
  have HP : Hid (putName (bs a0) = ([], 20)) := by rw [Hid, putName, if_pos hw]
  clear hw q0 q1 q2
  go_enter Try.func5, Try.ntmps5
  go_wp2_with (first
    | (go_at_call 8; refine (known2_any _).mono ?_; rintro e w1 ⟨rfl, hb⟩; have hB := below_trans hB hb)
    | (go_at_call 14; refine (Put_any a0 _ S0.out).mono ?_; rw [HP.out]; rintro e w1 ⟨A5, c5, rfl, _, hb⟩; have hB := below_trans hB hb)
    | (go_at_call 11; refine (Well_is a0 false _ S0.out H0.out).mono ?_; rintro e w1 ⟨rfl, hb⟩; have hB := below_trans hB hb))
  go_ret
  exact ⟨rfl, hB⟩

/-- What was put is read again. -/
theorem readName_put (l1 l l2 : List Nat) (hw : Nm.well l = true) (hl : l.length ≤ 100000) :
    readName (l1 ++ (Leb.putU l.length ++ l) ++ l2) (l1.length : Nat) = (l, l1.length + (Leb.putU l.length ++ l).length, 0) := by
  have hT : told false (l1 ++ (Leb.putU l.length ++ l) ++ l2) (l1.length : Nat) (32 : Nat) = (l.length, l1.length + (Leb.putU l.length).length, 0) := by
    rw [told_eq _ _ _ _ (by omega) (by omega) (by simp), List.append_assoc, List.drop_left, List.append_assoc, Leb.rd_putU 32 l.length _ _ (by omega) (by omega) (by omega)]
  unfold readName
  rw [show (32 : Int) = ((32 : Nat) : Int) from rfl, hT]
  have e : (l1 ++ (Leb.putU l.length ++ l) ++ l2).drop (l1.length + (Leb.putU l.length).length) = l ++ l2 := by
    rw [← List.drop_drop, List.append_assoc, List.drop_left, List.append_assoc, List.drop_left]
  simp only
  rw [if_neg (by omega), if_neg (by simp only [List.length_append]; omega), e, List.take_left, if_pos hw]
  simp only [List.length_append]
  rw [Nat.add_assoc]
/-- What is read is put with no more bytes than it had. -/
theorem readName_short (l x : List Nat) (k : Nat) (hl : l.length ≤ 100000) (h : readName l 0 = (x, k, 0)) : putName x = (Leb.putU x.length ++ x, 0) ∧ (Leb.putU x.length ++ x).length ≤ k ∧ (∀ y ∈ x, y ∈ l) := by
  unfold readName at h
  have hnx := told_next l 0
  have he := told_eq false l 0 32 (by omega) (by omega) (by omega)
  obtain ⟨⟨v, nx, er⟩, hT⟩ : ∃ q, told false l 0 32 = q := ⟨_, rfl⟩
  rw [show ((0 : Nat) : Int) = 0 from rfl, show ((32 : Nat) : Int) = 32 from rfl, hT, List.drop_zero] at he
  rw [hT] at h hnx
  simp only at h hnx
  split at h
  · next h1 => simp only [Prod.mk.injEq] at h; omega
  · next h1 =>
    have h1 : er = 0 := by omega
    subst h1
    have hnx := hnx rfl
    split at h
    · simp at h
    · next h2 =>
      split at h
      · next h3 =>
        simp only [Prod.mk.injEq] at h
        obtain ⟨hx, hk, _⟩ := h
        rw [hx] at h3
        have hlen : x.length = v := by rw [← hx, List.length_take, List.length_drop]; omega
        have hs := Leb.rd_short_u 32 l v nx he.symm
        refine ⟨?_, ?_, ?_⟩
        · unfold putName
          rw [if_neg (by rw [h3]; simp), if_neg (by omega)]
        · rw [List.length_append, hlen]; omega
        · intro y hy
          rw [← hx] at hy
          exact List.mem_of_mem_drop (List.mem_of_mem_take hy)
      · simp at h

set_option maxRecDepth 100000 in
set_option maxHeartbeats 2000000 in
theorem NameBack_in (w : World) (a0 : ByteArray) (A1 : Option Addr) (n1 c1 : Nat) (l1 : List Nat) (hy1 : Bytes w w.heap.size A1 n1 c1 l1) (A2 : Option Addr) (n2 c2 : Nat) (l2 : List Nat) (hy2 : Bytes w w.heap.size A2 n2 c2 l2)
    (q0 : a0.size ≤ 2000) (q1 : n1 ≤ 200) (q2 : n2 ≤ 200) (hw : Nm.well (bs a0) = true) :
    Calls Try.prog 5 #[.string a0, .slice A1 n1 c1, .slice A2 n2 c2] w fun e w' => e = .returned (.bool true) ∧ Below w.heap.size w w' := by
  have t1 : (a0.size : Int) ≤ 2000 := by omega
  have t2 : (n1 : Int) ≤ 200 := by omega
  have t3 : (n2 : Int) ≤ 200 := by omega
  have S0 := Lib.hid (small a0.size 2000 (by omega) (by omega))
  have h1l : l1.length = n1 := hy1.1
  have h2l : l2.length = n2 := hy2.1
  have hlen : (bs a0).length ≤ 100000 := by rw [bs_len]; omega
  have HP : Hid (putName (bs a0) = (Leb.putU (bs a0).length ++ bs a0, 0)) := by rw [Hid, putName, if_neg (by rw [hw]; simp), if_neg (by omega)]
  have T1 := readName_put l1 (bs a0) l2 hw hlen
  have hplt : ∀ x ∈ Leb.putU (bs a0).length ++ bs a0, x < 256 := fun x hx => by
    rcases List.mem_append.1 hx with hx | hx
    · exact Leb.putU_lt _ x hx
    · exact bs_lt a0 x hx
  have hpl : (Leb.putU (bs a0).length ++ bs a0).length ≤ 2010 := by
    have := Leb.putU_len10 (bs a0).length (by omega)
    rw [List.length_append, bs_len] at *
    omega
  generalize Leb.putU (bs a0).length ++ bs a0 = p at HP T1 hplt hpl
  generalize hP : p.length = P at T1 hpl
  have HPl := Lib.hid hP
  have Hlt := Lib.hid hplt
  rw [h1l] at T1
  have hall : Hid (∀ x ∈ l1 ++ p ++ l2, x < 256) := by
    intro x hx
    rcases List.mem_append.1 hx with hx | hx
    · rcases List.mem_append.1 hx with hx | hx
      · exact hy1.2.2.2.1 x hx
      · exact hplt x hx
    · exact hy2.2.2.2.1 x hx
  have HT1 := Lib.hid T1
  have RD : Hid (∀ (w' : World) (C c : Nat) (A : Option Addr), Bytes w' C A (n1 + P + n2) c (l1 ++ p ++ l2) → Calls Try.prog 9 #[.slice A (n1 + P + n2) c, .int .i64 n1] w' fun e w'' =>
      e = .returned (.tuple #[.string a0, .int .i64 ((n1 + P : Nat) : Int), .int .i64 0]) ∧ Below w'.heap.size w' w'') := fun w' C c A hy => by
    have := Read_any A (n1 + P + n2) c (l1 ++ p ++ l2) C n1 w' hy
    rw [HT1.out] at this
    refine this.mono ?_
    rintro e w'' ⟨rfl, hb⟩
    rw [str_bs]
    exact ⟨rfl, hb⟩
  obtain ⟨⟨x, k, g⟩, hr⟩ : ∃ r, readName l2 0 = r := ⟨_, rfl⟩
  have HR := Lib.hid hr
  have hsh : g = 0 → putName x = (Leb.putU x.length ++ x, 0) ∧ (Leb.putU x.length ++ x).length ≤ k ∧ (∀ y ∈ x, y ∈ l2) := fun hg => readName_short l2 x k (by omega) (by rw [hr, hg])
  have H1l := Lib.hid h1l
  have H2l := Lib.hid h2l
  have hxs : g = 0 → x.length ≤ 1000 := fun hg => by
    unfold readName at hr
    split at hr
    · simp only [Prod.mk.injEq] at hr; rw [← hr.1]; simp
    · split at hr
      · simp only [Prod.mk.injEq] at hr; rw [← hr.1]; simp
      · split at hr
        · simp only [Prod.mk.injEq] at hr; rw [← hr.1, List.length_take, List.length_drop]; omega
        · simp only [Prod.mk.injEq] at hr; rw [← hr.1]; simp
  clear hr T1 hplt hP h1l h2l hlen hw
  go_enter Try.func5, Try.ntmps5
  go_wp2_with (go_at_call 8; refine (known2_any _).mono ?_; rintro e w1 ⟨rfl, hb1⟩)
  refine (Put_any a0 _ S0.out).mono ?_
  rw [HP.out]
  rintro e w2 ⟨Ab, cb, rfl, hob, hb2⟩
  simp only at hob ⊢
  rw [HPl.out] at hob ⊢
  have hyb := hob.toBytes Hlt.out
  have hb02 := below_trans hb1 hb2
  have hb02' := hb02.alloc hb02.size (.cells #[] 5)
  have hbb' := (Below.refl w2.heap.size w2).alloc (Nat.le_refl _) (.cells #[] 5)
  go_wp2_with (first
    | (at_builtin; refine cat_slice rfl (.tmp 52) (.tmp 53) rfl _ l1 n1 rfl rfl (Own.empty w2 hb02.size) (hy1.below hb02') hb02'.size n1 (by omega) (by simp) ?_; intro A5 c5 w5 ho5 hg5; have hb5 := (Own.empty w2 hb02.size).grown hg5 (Nat.le_refl _) hb02'.size hb02'; have hbb5 := (Own.empty w2 (Nat.le_refl w2.heap.size)).grown hg5 (Nat.le_refl _) hbb'.size hbb')
    | (at_builtin; refine cat_slice rfl (.tmp 54) (.tmp 55) rfl _ p P rfl rfl ho5 (hyb.below hbb5) hb5.size (n1 + P) (by omega) (by simp [H1l.out]) ?_; intro A6 c6 w6 ho6 hg6; have hb6 := ho5.grown hg6 (Nat.le_refl _) hb5.size hb5)
    | (at_builtin; refine cat_slice rfl (.tmp 56) (.tmp 57) rfl _ l2 n2 rfl rfl ho6 (hy2.below hb6) hb6.size (n1 + P + n2) (by omega) (by simp [H1l.out, HPl.out]) ?_; intro A7 c7 w7 ho7 hg7; have hb7 := ho6.grown hg7 (Nat.le_refl _) hb6.size hb6))
  rw [List.nil_append] at ho7
  refine (RD.out _ _ _ _ (ho7.toBytes hall.out)).mono ?_
  rintro e w8 ⟨rfl, hb8⟩
  have hb08 := below_trans hb7 hb8
  go_wp2_with fail
  have hrd := Read_any A2 n2 c2 l2 _ 0 w8 (hy2.below hb08)
  rw [HR.out] at hrd
  refine hrd.mono ?_
  clear hrd
  rintro e w9 ⟨rfl, hb9⟩
  have hb09 := below_trans hb08 hb9
  simp only
  by_cases hg : g = 0
  · subst hg
    obtain ⟨hsh1, hsh2, hsh3⟩ := hsh rfl
    have hx := hxs rfl
    clear hsh hxs
    have hxl : ∀ y ∈ x, y < 256 := fun y hy => hy2.2.2.2.1 y (hsh3 y hy)
    have SX : Hid ((str x).size ≤ maxLen) := by rw [Hid, str_size]; exact small _ 1000 (by omega) (by omega)
    have HX : Hid (putName (bs (str x)) = (Leb.putU x.length ++ x, 0)) := by rw [Hid, bs_str x hxl]; exact hsh1
    clear hxl hsh1 hsh3
    generalize Leb.putU x.length ++ x = z at HX hsh2
    have hz : (z.length : Int) ≤ (k : Int) := by omega
    clear hsh2
    go_wp2_with (go_at_call 14; refine (Put_any (str x) _ SX.out).mono ?_; rw [HX.out]; rintro e wa ⟨Aa, ca, rfl, _, hba⟩; have hb0a := below_trans hb09 hba)
    go_ret
    exact ⟨rfl, hb0a⟩
  · have hg2 : ((g : Int) == 0) = false := beq_eq_false_iff_ne.2 (by omega)
    clear hg hsh hxs
    go_wp2_with fail
    go_ret
    exact ⟨rfl, hb09⟩

theorem NameBack_walk (w : World) (a0 : ByteArray) (_ : a0.size ≤ maxLen) (A1 : Option Addr) (n1 c1 : Nat) (l1 : List Nat) (hy1 : Bytes w w.heap.size A1 n1 c1 l1) (A2 : Option Addr) (n2 c2 : Nat) (l2 : List Nat) (hy2 : Bytes w w.heap.size A2 n2 c2 l2) :
    Calls Try.prog 5 #[.string a0, .slice A1 n1 c1, .slice A2 n2 c2] w fun e w' => e = .returned (.bool true) ∧ Below w.heap.size w w' := by
  by_cases h : 2000 < a0.size ∨ 200 < n1 ∨ 200 < n2
  · exact NameBack_out w a0 A1 n1 c1 A2 n2 c2 h
  · by_cases hw : Nm.well (bs a0) = true
    · exact NameBack_in w a0 A1 n1 c1 l1 hy1 A2 n2 c2 l2 hy2 (by omega) (by omega) (by omega) hw
    · exact NameBack_bad w a0 A1 n1 c1 A2 n2 c2 (by omega) (by omega) (by omega) (by simpa using hw)
end Go.Proofs.Ytkpobcomaocfpaa
