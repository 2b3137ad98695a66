/-
  The walk of the statement LebPadded: a number whose bytes go on by ones that add nothing.
-/
import Derived.Test.YtobifilfhhhamaaLebK
import Derived.Test.YtobifilfhhhamaaLebN
namespace Go.Proofs.Ytobifilfhhhamaa
open Go.RowKit
set_option linter.unusedVariables false

set_option maxRecDepth 100000 in
set_option maxHeartbeats 1000000 in
theorem LebPadded_out (w : World) (n : Nat) (more : Int) (h : more < 1 ∨ 12 < more) :
    Calls Try.prog 9 #[.int .u64 n, .int .i64 more] w fun e w' => e = .returned (.bool true) ∧ Below w.heap.size w w' := by
  have H : Hid (more < 1 ∨ 12 < more) := h
  clear h
  by_cases q1 : more < 1
  · have t1 : decide (more < 1) = true := by simpa using q1
    go_enter Try.func9, Try.ntmps9
    go_wp2_with (go_at_call 10; refine (known_any _).mono ?_; rintro e w1 ⟨rfl, hb1⟩)
    go_ret
    exact ⟨rfl, hb1⟩
  have t1 : decide (more < 1) = false := by simpa using q1
  have q2 : 12 < more := by have := H.out; omega
  have t2 : decide (12 < more) = true := by simpa using q2
  go_enter Try.func9, Try.ntmps9
  go_wp2_with (go_at_call 10; refine (known_any _).mono ?_; rintro e w1 ⟨rfl, hb1⟩)
  go_ret
  exact ⟨rfl, hb1⟩

set_option maxRecDepth 100000 in
set_option maxHeartbeats 2000000 in
theorem LebPadded_in (w : World) (n0 : Nat) (more : Nat) (q1 : 1 ≤ more) (q2 : more ≤ 12) (hn0 : Hid (n0 < 18446744073709551616)) :
    Calls Try.prog 9 #[.int .u64 n0, .int .i64 more] w fun e w' => e = .returned (.bool true) ∧ Below w.heap.size w w' := by
  have t1 : decide ((more : Int) < 1) = false := by simp; omega
  have t2 : decide (12 < (more : Int)) = false := by simp; omega
  go_enter Try.func9, Try.ntmps9
  go_wp2_with fail
  go_loopw [0, 5] (fun t b wr => ∃ n bt : Nat, t = .int .u64 n ∧ b = .int .i64 bt ∧ (bt = 32 ∨ bt = 64 ∨ bt = 96) ∧ Hid (n < 18446744073709551616) ∧ Below w.heap.size w wr) (fun _ b _ => 96 - (intOf b).toNat)
  case atStart => exact ⟨n0, 32, rfl, rfl, .inl rfl, hn0, Below.refl _ _⟩
  case round =>
    obtain ⟨n, bt, rfl, rfl, hbt, hn, hb⟩ := hrel
    clear t1 t2
    by_cases h96 : bt = 96
    · subst h96
      clear hbt
      go_wp2_with (go_at_call 10; refine (known_any _).mono ?_; rintro e w1 ⟨rfl, hb1⟩)
      go_ret
      exact ⟨rfl, hb.trans (hb1.mono hb.size)⟩
    · have hbt2 : bt = 32 ∨ bt = 64 := by omega
      clear hbt h96
      have key : ∃ n2 : Nat, (bt = 32 → (n : Int) % 4294967296 = (n2 : Int)) ∧ (bt = 64 → n = n2) ∧ Hid (n2 < 2 ^ bt) ∧ Hid (n2 < 18446744073709551616) := by
        have := hn.out
        rcases hbt2 with rfl | rfl
        · exact ⟨n % 4294967296, by simp, by simp, by rw [Hid]; omega, by rw [Hid]; omega⟩
        · exact ⟨n, by simp, by simp, hn, hn⟩
      obtain ⟨n2, e32, e64, hn2, hn2'⟩ := key
      obtain ⟨k, hk, hk', hk''⟩ := Leb.putU_long n2
      have hk9 : k ≤ 9 := by
        have := hn2'.out
        rcases hk'' with h | h
        · omega
        · rcases Nat.lt_or_ge 9 k with h9 | h9
          · have := Nat.pow_le_pow_right (n := 128) (by omega) h9
            omega
          · exact h9
      obtain ⟨pre, e1, ex, _⟩ := Leb.long_snoc k n2 hk'
      have hfin : Hid (told false (Leb.long (k + more) n2) (0 : Nat) (bt : Nat) = if k + more + 1 ≤ (bt + 6) / 7 then (n2, k + more + 1, 0) else (0, 0, 11)) := by
        have h2 := hn2.out
        rw [Hid, told_eq _ _ _ _ (by omega) (by omega) (by omega), List.drop_zero]
        split
        · have := Leb.rd_long bt (by omega) (k + more) n2 [] 0 0 0 (by omega) (Nat.lt_of_lt_of_le hk' (Nat.pow_le_pow_right (by omega) (by omega))) (by simp) (by simpa using h2)
          rw [List.append_nil] at this
          rw [this]; simp
        · have := Leb.rd_many bt (by omega) (k + more) n2 [] 0 0 0 (by omega) (by omega) (by simp) (by simpa using h2)
          rw [List.append_nil] at this
          exact this
      have hpl : pre = Leb.lead k n2 := by
        have := Leb.long_lead k n2
        rw [e1] at this
        exact (List.append_inj' this rfl).1
      subst hpl
      have hsn := Leb.lead_snoc k n2
      generalize hx : n2 / 128 ^ k = x at *
      rw [Nat.mod_eq_of_lt ex] at hsn
      have HK := Lib.hid hk
      have HK' := Lib.hid hk'
      have HL := Lib.hid e1
      have HSN := Lib.hid hsn
      have hor := or128 x ex
      have HX := Lib.hid hx
      have hlow : Hid (∀ m, k + 1 ≤ m → n2 / 128 ^ m = 0) := fun m hm => Nat.div_eq_of_lt (Nat.lt_of_lt_of_le hk' (Nat.pow_le_pow_right (by omega) hm))
      clear hk hk' hk'' e1 hsn hx
      have hbs := hb.size
      have hk10 : ((k : Int) + 1 == 0) = false := by simp; omega
      rcases hbt2 with rfl | rfl
      · have e := e32 rfl
        clear e32 e64
        go_wp2_with fail
        refine (PutU_any n2 _ hn2'.out).mono ?_
        rintro e w2 ⟨v, rfl, ho, hb2⟩
        rw [HK.out] at ho
        have ho := ho.base hbs
        have hb2 := hb.trans (hb2.mono hbs)
        obtain ⟨A, c, rfl⟩ := ho.form
        rw [Leb.long_len] at ho ⊢
        have hc2 := (ho.toBytes (Leb.long_lt k n2 HK'.out)).2.1
        have hc3 := (ho.toBytes (Leb.long_lt k n2 HK'.out)).2.2.1
        unfold maxLen at hc3
        rw [HL.out] at ho
        obtain ⟨g, rfl, hg, hgs, hcell, hfr, hset⟩ := ho.open_ (by omega)
        have hll := Leb.lead_len k n2
        have hcl := hcell k (by simp [hll])
        have hfk := hfr k
        have hsk := hset k (x + 128)
        rw [List.getElem_append_right (by omega)] at hcl
        simp [hll] at hcl
        rw [show (Leb.lead k n2 ++ [x]).set k (x + 128) = Leb.lead (k + 1) n2 by rw [HSN.out, List.set_append_right _ _ (by omega)]; simp [hll]] at hsk
        have HSK : Hid (Own w.heap.size (w2.setCell ⟨g, k, none⟩ (.int .u8 ((x : Int) + 128))) (.slice (some ⟨g, 0, none⟩) (k + 1) c) (Leb.lead (k + 1) n2)) := hsk
        clear hsk hcell hfr hset hll
        have HB2 : Hid (Below w.heap.size w (w2.setCell ⟨g, k, none⟩ (.int .u8 ((x : Int) + 128)))) := hb2.setCell hg _
        go_wp2_with fail
        obtain ⟨wo, hwo⟩ : ∃ wo : World, wo = w2.setCell ⟨g, k, none⟩ (.int .u8 ((x : Int) + 128)) := ⟨_, rfl⟩
        rw [← hwo] at HB2 HSK ⊢
        clear hwo hcl hfk hor hg hgs hb2
        go_loopw [6, 7] (fun v i wr => ∃ (j : Nat) (A : Option Addr) (c : Nat), v = .slice A (k + j) c ∧ i = .int .i64 j ∧ 1 ≤ j ∧ j ≤ more ∧ Own w.heap.size wr (.slice A (k + j) c) (Leb.lead (k + j) n2) ∧ Below w.heap.size w wr) (fun _ i _ => more - (intOf i).toNat)
        case atStart => exact ⟨1, _, c, rfl, rfl, by omega, q1, HSK.out, HB2.out⟩
        case round =>
          obtain ⟨j, A, c', rfl, rfl, hj1, hj2, hoj, hbj⟩ := hrel
          clear ho
          have hlj := Lib.hid (Leb.lead_len (k + j) n2)
          by_cases hjm : j < more
          · go_wp2_with (at_builtin; refine push_slice rfl (.tmp 44) (.tmp 45) rfl _ _ rfl 128 _ rfl rfl hoj hbj.size (by rw [hlj.out]; omega) (k + j + 1) (by rw [hlj.out]) ?_ rfl; intro A' c'' w' hown' hg')
            have hsn2 := Leb.lead_snoc (k + j) n2
            rw [hlow.out (k + j) (by omega)] at hsn2
            have hown2 := hown'
            rw [show Leb.lead (k + j) n2 ++ [128] = Leb.lead (k + (j + 1)) n2 by rw [← Nat.add_assoc, hsn2]] at hown2
            clear hsn2
            go_roundw
            case rel => exact ⟨j + 1, A', c'', rfl, rfl, by omega, by omega, hown2, hoj.grown hg' (Nat.le_refl _) hbj.size hbj⟩
            case measure => simp [intOf]; omega
          · obtain rfl : j = more := by omega
            have hfj := hfin.out
            by_cases hfit : k + j + 1 ≤ 5
            · rw [if_pos (by omega)] at hfj
              have HF := Lib.hid hfj
              clear hfj hfin
              go_wp2_with (at_builtin; refine push_slice rfl (.tmp 47) (.tmp 48) rfl _ _ rfl 0 _ rfl rfl hoj hbj.size (by rw [hlj.out]; omega) (k + j + 1) (by rw [hlj.out]) ?_ rfl; intro A' c'' w' hown' hg')
              have hown2 := hown'
              rw [show Leb.lead (k + j) n2 ++ [0] = Leb.long (k + j) n2 by rw [Leb.long_lead, hlow.out (k + j) (by omega)]] at hown2
              have hbw := hoj.grown hg' (Nat.le_refl _) hbj.size hbj
              have hyw := hown2.toBytes (Leb.long_lt (k + j) n2 (Nat.lt_of_lt_of_le HK'.out (Nat.pow_le_pow_right (by omega) (by omega))))
              refine (U_at A' (k + j + 1) c'' _ _ 0 32 _ n2 (k + j + 1) 0 hyw HF.out).mono ?_
              rintro e w9 ⟨rfl, k9, rfl⟩
              go_wp2_with fail
              go_roundw
              case rel => exact ⟨_, 64, rfl, rfl, by omega, hn2', below_drewN hbw _⟩
              case measure => simp [intOf]
            · rw [if_neg (by omega)] at hfj
              have HF := Lib.hid hfj
              clear hfj hfin
              go_wp2_with (at_builtin; refine push_slice rfl (.tmp 47) (.tmp 48) rfl _ _ rfl 0 _ rfl rfl hoj hbj.size (by rw [hlj.out]; omega) (k + j + 1) (by rw [hlj.out]) ?_ rfl; intro A' c'' w' hown' hg')
              have hown2 := hown'
              rw [show Leb.lead (k + j) n2 ++ [0] = Leb.long (k + j) n2 by rw [Leb.long_lead, hlow.out (k + j) (by omega)]] at hown2
              have hbw := hoj.grown hg' (Nat.le_refl _) hbj.size hbj
              have hyw := hown2.toBytes (Leb.long_lt (k + j) n2 (Nat.lt_of_lt_of_le HK'.out (Nat.pow_le_pow_right (by omega) (by omega))))
              refine (U_at A' (k + j + 1) c'' _ _ 0 32 _ 0 0 11 hyw HF.out).mono ?_
              rintro e w9 ⟨rfl, k9, rfl⟩
              go_wp2_with fail
              go_roundw
              case rel => exact ⟨_, 64, rfl, rfl, by omega, hn2', below_drewN hbw _⟩
              case measure => simp [intOf]
      · obtain rfl := e64 rfl
        clear e32 e64
        go_wp2_with fail
        refine (PutU_any n _ hn2'.out).mono ?_
        rintro e w2 ⟨v, rfl, ho, hb2⟩
        rw [HK.out] at ho
        have ho := ho.base hbs
        have hb2 := hb.trans (hb2.mono hbs)
        obtain ⟨A, c, rfl⟩ := ho.form
        rw [Leb.long_len] at ho ⊢
        have hc2 := (ho.toBytes (Leb.long_lt k n HK'.out)).2.1
        have hc3 := (ho.toBytes (Leb.long_lt k n HK'.out)).2.2.1
        unfold maxLen at hc3
        rw [HL.out] at ho
        obtain ⟨g, rfl, hg, hgs, hcell, hfr, hset⟩ := ho.open_ (by omega)
        have hll := Leb.lead_len k n
        have hcl := hcell k (by simp [hll])
        have hfk := hfr k
        have hsk := hset k (x + 128)
        rw [List.getElem_append_right (by omega)] at hcl
        simp [hll] at hcl
        rw [show (Leb.lead k n ++ [x]).set k (x + 128) = Leb.lead (k + 1) n by rw [HSN.out, List.set_append_right _ _ (by omega)]; simp [hll]] at hsk
        have HSK : Hid (Own w.heap.size (w2.setCell ⟨g, k, none⟩ (.int .u8 ((x : Int) + 128))) (.slice (some ⟨g, 0, none⟩) (k + 1) c) (Leb.lead (k + 1) n)) := hsk
        clear hsk hcell hfr hset hll
        have HB2 : Hid (Below w.heap.size w (w2.setCell ⟨g, k, none⟩ (.int .u8 ((x : Int) + 128)))) := hb2.setCell hg _
        go_wp2_with fail
        obtain ⟨wo, hwo⟩ : ∃ wo : World, wo = w2.setCell ⟨g, k, none⟩ (.int .u8 ((x : Int) + 128)) := ⟨_, rfl⟩
        rw [← hwo] at HB2 HSK ⊢
        clear hwo hcl hfk hor hg hgs hb2
        go_loopw [6, 7] (fun v i wr => ∃ (j : Nat) (A : Option Addr) (c : Nat), v = .slice A (k + j) c ∧ i = .int .i64 j ∧ 1 ≤ j ∧ j ≤ more ∧ Own w.heap.size wr (.slice A (k + j) c) (Leb.lead (k + j) n) ∧ Below w.heap.size w wr) (fun _ i _ => more - (intOf i).toNat)
        case atStart => exact ⟨1, _, c, rfl, rfl, by omega, q1, HSK.out, HB2.out⟩
        case round =>
          obtain ⟨j, A, c', rfl, rfl, hj1, hj2, hoj, hbj⟩ := hrel
          clear ho
          have hlj := Lib.hid (Leb.lead_len (k + j) n)
          by_cases hjm : j < more
          · go_wp2_with (at_builtin; refine push_slice rfl (.tmp 44) (.tmp 45) rfl _ _ rfl 128 _ rfl rfl hoj hbj.size (by rw [hlj.out]; omega) (k + j + 1) (by rw [hlj.out]) ?_ rfl; intro A' c'' w' hown' hg')
            have hsn2_ := Leb.lead_snoc (k + j) n
            rw [hlow.out (k + j) (by omega)] at hsn2_
            have hown := hown'
            rw [show Leb.lead (k + j) n ++ [128] = Leb.lead (k + (j + 1)) n by rw [← Nat.add_assoc, hsn2_]] at hown
            clear hsn2_
            go_roundw
            case rel => exact ⟨j + 1, A', c'', rfl, rfl, by omega, by omega, hown, hoj.grown hg' (Nat.le_refl _) hbj.size hbj⟩
            case measure => simp [intOf]; omega
          · obtain rfl : j = more := by omega
            have hfj := hfin.out
            by_cases hfit : k + j + 1 ≤ 10
            · rw [if_pos (by omega)] at hfj
              have HF := Lib.hid hfj
              clear hfj hfin
              go_wp2_with (at_builtin; refine push_slice rfl (.tmp 47) (.tmp 48) rfl _ _ rfl 0 _ rfl rfl hoj hbj.size (by rw [hlj.out]; omega) (k + j + 1) (by rw [hlj.out]) ?_ rfl; intro A' c'' w' hown' hg')
              have hown := hown'
              rw [show Leb.lead (k + j) n ++ [0] = Leb.long (k + j) n by rw [Leb.long_lead, hlow.out (k + j) (by omega)]] at hown
              have hbw := hoj.grown hg' (Nat.le_refl _) hbj.size hbj
              have hyw := hown.toBytes (Leb.long_lt (k + j) n (Nat.lt_of_lt_of_le HK'.out (Nat.pow_le_pow_right (by omega) (by omega))))
              refine (U_at A' (k + j + 1) c'' _ _ 0 64 _ n (k + j + 1) 0 hyw HF.out).mono ?_
              rintro e w9 ⟨rfl, k9, rfl⟩
              go_wp2_with fail
              go_roundw
              case rel => exact ⟨_, 96, rfl, rfl, by omega, hn2', below_drewN hbw _⟩
              case measure => simp [intOf]
            · rw [if_neg (by omega)] at hfj
              have HF := Lib.hid hfj
              clear hfj hfin
              go_wp2_with (at_builtin; refine push_slice rfl (.tmp 47) (.tmp 48) rfl _ _ rfl 0 _ rfl rfl hoj hbj.size (by rw [hlj.out]; omega) (k + j + 1) (by rw [hlj.out]) ?_ rfl; intro A' c'' w' hown' hg')
              have hown := hown'
              rw [show Leb.lead (k + j) n ++ [0] = Leb.long (k + j) n by rw [Leb.long_lead, hlow.out (k + j) (by omega)]] at hown
              have hbw := hoj.grown hg' (Nat.le_refl _) hbj.size hbj
              have hyw := hown.toBytes (Leb.long_lt (k + j) n (Nat.lt_of_lt_of_le HK'.out (Nat.pow_le_pow_right (by omega) (by omega))))
              refine (U_at A' (k + j + 1) c'' _ _ 0 64 _ 0 0 11 hyw HF.out).mono ?_
              rintro e w9 ⟨rfl, k9, rfl⟩
              go_wp2_with fail
              go_roundw
              case rel => exact ⟨_, 96, rfl, rfl, by omega, hn2', below_drewN hbw _⟩
              case measure => simp [intOf]

theorem LebPadded_walk (w : World) (a0 : Int) (wf0 : (Lit.int .u64 a0).wf = true) (a1 : Int) (_ : (Lit.int .i64 a1).wf = true) :
    Calls Try.prog 9 #[.int .u64 a0, .int .i64 a1] w fun e w' => e = .returned (.bool true) ∧ Below w.heap.size w w' := by
  obtain ⟨h0, h0'⟩ := u64_wf wf0
  obtain ⟨n, rfl⟩ := Int.eq_ofNat_of_zero_le h0
  by_cases h : a1 < 1 ∨ 12 < a1
  · exact LebPadded_out w n a1 h
  · obtain ⟨more, rfl⟩ := Int.eq_ofNat_of_zero_le (show 0 ≤ a1 by omega)
    exact LebPadded_in w n more (by omega) (by omega) (show n < _ by omega)
end Go.Proofs.Ytobifilfhhhamaa
