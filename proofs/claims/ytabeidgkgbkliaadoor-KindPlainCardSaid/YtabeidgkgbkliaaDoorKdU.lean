/-
  Layer 4, the document's side: digits.
-/
import Derived.Test.YtabeidgkgbkliaaDoorKdF
import Derived.Test.YtabeidgkgbkliaaDoorKdQ
import Derived.Deep.RegionWith
import Derived.Lib.ConvBytes
namespace Go.Proofs.YtabeidgkgbkliaaDoor
open Go.RowKit
set_option linter.unusedVariables false
set_option maxRecDepth 100000

theorem run_one (w : World) (b d : Nat) (hd : d < 256) (hc : w.cell? ⟨b, 0, none⟩ = some (.int .u8 (d : Int))) : (convert 93 9 (.slice (some ⟨b, 0, none⟩) 1 1)).run Tryd.prog w = .ok (Str [UInt8.ofNat d]) w := by
  have := run_convert_bytes_back (P := Tryd.prog) w 93 9 5 ⟨b, 0, none⟩ 1 [UInt8.ofNat d] Tryd.underlying93 Tryd.underlying5 Tryd.underlying9 (fun j hj => by
    have h0 : j = 0 := by simpa using hj
    subst h0
    rw [Addr.add_lit]
    simp [hc, Nat.mod_eq_of_lt hd])
  exact this
theorem rDigits_any (n : Nat) (h : n < 9223372036854775808) (w : World) :
    Calls Tryd.prog 49 #[.int .i64 n] w fun e w' => e = .returned (Str (Lib.decDigits n)) ∧ Below w.heap.size w w' := by
  induction n using Nat.strongRecOn generalizing w with
  | ind n ih =>
  have h0 : (0 : Int) ≤ n := by omega
  have h1 : (n : Int) ≤ 9223372036854775807 := by omega
  obtain ⟨r, hr⟩ : ∃ r, Lib.decDigits n = r := ⟨_, rfl⟩
  rw [hr]
  rw [Lib.decDigits] at hr
  have hr' := Lib.hid hr
  clear hr
  obtain ⟨d, hd⟩ : ∃ d, 48 + n % 10 = d := ⟨_, rfl⟩
  have d0 : 48 ≤ d := by omega
  have d9 : d ≤ 57 := by omega
  have hd' := Lib.hid hd
  have q4 : IntKind.u8.wrap (d : Int) = d := by simp [IntKind.wrap, IntKind.bits, IntKind.signed]; omega
  have one : ∀ (W : World) (b : Nat), W.cell? ⟨b, 0, none⟩ = some (.int .u8 (d : Int)) → (convert 93 9 (.slice (some ⟨b, 0, none⟩) 1 1)).run Tryd.prog W = .ok (Str [UInt8.ofNat d]) W := fun W b hc => run_one W b d (by omega) hc
  by_cases hlt : n < 10
  · have hl : (n : Int) < 10 := by omega
    have q3 : IntKind.i64.wrap (48 + (n : Int)) = d := by rw [wrap_small _ (by omega) (by omega)]; omega
    clear ih hd
    go_enter Tryd.func49, Tryd.ntmps49
    go_wp2
    go_ret
    refine ⟨ret_str ?_, (Below.refl _ _).alloc (Nat.le_refl _) _⟩
    rw [← hr'.out, dif_pos hlt, ← hd'.out, Nat.mod_eq_of_lt hlt]
  · have hl : ¬ (n : Int) < 10 := by omega
    have IH := Lib.hid (ih (n / 10) (by omega) (by omega))
    clear ih
    obtain ⟨m, hm⟩ : ∃ m, n / 10 = m := ⟨_, rfl⟩
    rw [hm] at IH
    rw [dif_neg hlt, hm] at hr'
    have q1 : IntKind.i64.wrap ((n : Int) / 10) = m := by rw [wrap_small _ (by omega) (by omega)]; omega
    have q3 : IntKind.i64.wrap (48 + (n : Int).tmod 10) = d := by rw [Int.tmod_eq_emod_of_nonneg h0, wrap_small _ (by omega) (by omega)]; omega
    have hlm : (Lib.decDigits m).length ≤ 21 := by
      have h := Lib.itoa_length_le (m : Int) (by omega) (by omega)
      unfold Lib.itoa at h
      rw [if_neg (by omega)] at h
      simpa using h
    obtain ⟨t, ht⟩ : ∃ t, Lib.decDigits m = t := ⟨_, rfl⟩
    rw [ht] at IH hr' hlm
    have s1 : (9223372036854775807 < t.length + 1) = False := eq_false (by omega)
    clear hd hm ht
    go_enter Tryd.func49, Tryd.ntmps49
    go_wp2_with fail
    go_region_with (go_at_call 49; (with_reducible refine (IH.out _).mono ?_); rintro e w1 ⟨rfl, hb⟩; obtain ⟨hc, hf⟩ := bcell hb)
    all_goals
      go_wp2
      go_ret
      refine ⟨ret_str ?_, ?_⟩
      · rw [← hr'.out, hd'.out]
      · first
        | exact below_trans ((Below.refl _ _).drew.alloc (by simp) _) hb
        | (have h1 := below_trans (Below.refl w.heap.size w).drew hb; exact h1.alloc h1.size _)
end Go.Proofs.YtabeidgkgbkliaaDoor
