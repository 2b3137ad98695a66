/-
  num's calls, opcode by opcode.
-/
import Derived.Test.YtnhnbcjffnlicaaDoorNumK
import Derived.Test.YtnhnbcjffnlicaaDoorNumS
import Derived.Test.YtnhnbcjffnlicaaDoorNumB
import Derived.Test.YtnhnbcjffnlicaaDoorNumG0
import Derived.Test.YtnhnbcjffnlicaaDoorNumG1
import Derived.Test.YtnhnbcjffnlicaaDoorNumG2
import Derived.Test.YtnhnbcjffnlicaaDoorNumG3
import Derived.Test.YtnhnbcjffnlicaaDoorNumG4
import Derived.Test.YtnhnbcjffnlicaaDoorNumG5
import Derived.Test.YtnhnbcjffnlicaaDoorNumU0
import Derived.Test.YtnhnbcjffnlicaaDoorNumU1
import Derived.Test.YtnhnbcjffnlicaaDoorNumU2
import Derived.Test.YtnhnbcjffnlicaaDoorNumU3
import Derived.Test.YtnhnbcjffnlicaaDoorNumU4
import Derived.Test.YtnhnbcjffnlicaaDoorNumU5
import Derived.Test.YtnhnbcjffnlicaaDoorNumU6
import Derived.Test.YtnhnbcjffnlicaaDoorNumU7
namespace Go.Proofs.YtnhnbcjffnlicaaDoor
open Go.RowKit Num
set_option linter.unusedVariables false

theorem w32 : Wd 32 32 := .inl ⟨rfl, rfl⟩
theorem w64 : Wd 64 64 := .inr ⟨rfl, rfl⟩
theorem tv_le1 (p w a b : Nat) (h1 : 10 ≤ p) (h2 : p ≤ 19) : tv p w a b ≤ 1 := by rw [tv_ab p w a b h1 h2]; exact yes_le _
theorem ask_v (p w a b : Nat) (h1 : 10 ≤ p) (h2 : p ≤ 19) : tv p w a b < 18446744073709551616 ∧ tv p w a b % 2 ^ 32 = tv p w a b := by
  have := tv_le1 p w a b h1 h2
  exact ⟨by omega, small_mod (by omega) (by omega)⟩
theorem le64_v {x t : Nat} (ht : 32 ≤ t) (hx : x ≤ 64) : x < 18446744073709551616 ∧ x % 2 ^ t = x := ⟨by omega, small_mod ht hx⟩
theorem md_v {w : Nat} (hw : w ≤ 64) (z : Int) : md 64 z < 18446744073709551616 ∧ md 64 z % 2 ^ w = md w z := ⟨md_lt64 z, md_cut hw z⟩
theorem lt_v {x w : Nat} (hw : w ≤ 64) (hx : x < 2 ^ w) : x < 18446744073709551616 ∧ x % 2 ^ w = x := ⟨lt_64 hw hx, Nat.mod_eq_of_lt hx⟩
theorem trail_le (w a : Nat) (hw : w ≤ 64) (ha : a < 2 ^ w) : (if a = 0 then w else Lib.ctz 64 a) ≤ 64 := by
  split
  · exact hw
  · rename_i h; have := ctz_le w a hw h ha; omega
theorem te_bars (p w a b : Nat) (hp : p = 24 ∨ p = 25 ∨ p = 26) : te p w a b = if b = 0 then 30 else 0 := by
  unfold te
  by_cases hb : b = 0
  · rw [if_pos (by omega), if_pos hb]
  · rw [if_neg (by omega), if_neg (by omega), if_neg hb]
theorem te_over (w a b : Nat) (hw : 32 ≤ w) : te 23 w a b = over w a b := by
  unfold te over
  have hp : 2 ^ 1 ≤ 2 ^ w := Nat.pow_le_pow_right (by omega) (by omega)
  by_cases hb : b = 0
  · rw [if_pos (by omega), if_neg (by omega), if_pos hb]
  · rw [if_neg (by omega)]
    by_cases h2 : b = 2 ^ w - 1 ∧ a = 2 ^ (w - 1)
    · rw [if_pos ⟨rfl, h2⟩, if_pos h2]
    · rw [if_neg (fun h => h2 h.2), if_neg h2, if_neg hb]
theorem te_b0 {p w a b : Nat} (hp : 23 ≤ p ∧ p ≤ 26) (h : te p w a b = 0) : b ≠ 0 := by
  rintro rfl
  unfold te at h
  rw [if_pos (by omega)] at h
  exact absurd h (by decide)
theorem bars_te (p w : Nat) (v : Int) (hp : p = 24 ∨ p = 25 ∨ p = 26) (a b : Nat) (W : World) : Calls Tryd.prog 61 #[.agg #[.int .u64 a, .int .i64 v], .agg #[.int .u64 b, .int .i64 v]] W (ErrIs (te p w a b) W) := by
  rw [te_bars p w a b hp]; exact bars_any a b v v W
theorem barsS_te (w : Nat) (v : Int) (h : Wd w v) (a b : Nat) (ha : a < 2 ^ w) (hb : b < 2 ^ w) (W : World) : Calls Tryd.prog 59 #[.agg #[.int .u64 a, .int .i64 v], .agg #[.int .u64 b, .int .i64 v]] W (ErrIs (te 23 w a b) W) := by
  rw [te_over w a b (wd_le h).1]; exact barsS_any w v h a ha b hb W
theorem shr_div {a b w : Nat} (h : a < 2 ^ w) : a / b < 2 ^ w := Nat.lt_of_le_of_lt (Nat.div_le_self _ _) h
theorem code_69 : CodeOK 69 :=
  code_one 69 0 32 32 39 32 32 (by decide) w32 w32 (fun W => find_0 69 (by decide) (by decide) W _ _ _ (stores_fn _) stores_nil stores_nil (fun W => asking_at0 W)) (enters_of Tryd.func39 (by kernel_rfl) rfl)
    (fun a => yes (decide (a = 0))) (fun a ha => le64_v (by decide) (Nat.le_trans (yes_le _) (by decide))) (fun a W hT ha => ask1_any 32 32 w32 a ha W)
theorem code_70 : CodeOK 70 :=
  code_two 70 10 32 32 41 32 32 (by decide) w32 w32 (by decide) (fun W => find_0 70 (by decide) (by decide) W _ _ _ stores_nil (stores_fn _) stores_nil (fun W => asking_at1 W)) (enters_of Tryd.func41 (by kernel_rfl) rfl)
    (fun a b => tv 10 32 a b) (fun a b ha hb => ask_v 10 32 a b (by decide) (by decide)) (fun a b W ha hb => ask2_any 32 32 w32 a ha b hb W)
theorem code_71 : CodeOK 71 :=
  code_two 71 11 32 32 42 32 32 (by decide) w32 w32 (by decide) (fun W => find_0 71 (by decide) (by decide) W _ _ _ stores_nil (stores_fn _) stores_nil (fun W => asking_at2 W)) (enters_of Tryd.func42 (by kernel_rfl) rfl)
    (fun a b => tv 11 32 a b) (fun a b ha hb => ask_v 11 32 a b (by decide) (by decide)) (fun a b W ha hb => ask3_any 32 32 w32 a ha b hb W)
theorem code_72 : CodeOK 72 :=
  code_two 72 12 32 32 43 32 32 (by decide) w32 w32 (by decide) (fun W => find_0 72 (by decide) (by decide) W _ _ _ stores_nil (stores_fn _) stores_nil (fun W => asking_at3 W)) (enters_of Tryd.func43 (by kernel_rfl) rfl)
    (fun a b => tv 12 32 a b) (fun a b ha hb => ask_v 12 32 a b (by decide) (by decide)) (fun a b W ha hb => ask4_any 32 32 w32 a ha b hb W)
theorem code_73 : CodeOK 73 :=
  code_two 73 13 32 32 45 32 32 (by decide) w32 w32 (by decide) (fun W => find_0 73 (by decide) (by decide) W _ _ _ stores_nil (stores_fn _) stores_nil (fun W => asking_at4 W)) (enters_of Tryd.func45 (by kernel_rfl) rfl)
    (fun a b => tv 13 32 a b) (fun a b ha hb => ask_v 13 32 a b (by decide) (by decide)) (fun a b W ha hb => ask5_any 32 32 w32 a ha b hb W)
theorem code_74 : CodeOK 74 :=
  code_two 74 14 32 32 46 32 32 (by decide) w32 w32 (by decide) (fun W => find_0 74 (by decide) (by decide) W _ _ _ stores_nil (stores_fn _) stores_nil (fun W => asking_at5 W)) (enters_of Tryd.func46 (by kernel_rfl) rfl)
    (fun a b => tv 14 32 a b) (fun a b ha hb => ask_v 14 32 a b (by decide) (by decide)) (fun a b W ha hb => ask6_any 32 32 w32 a ha b hb W)
theorem code_75 : CodeOK 75 :=
  code_two 75 15 32 32 47 32 32 (by decide) w32 w32 (by decide) (fun W => find_0 75 (by decide) (by decide) W _ _ _ stores_nil (stores_fn _) stores_nil (fun W => asking_at6 W)) (enters_of Tryd.func47 (by kernel_rfl) rfl)
    (fun a b => tv 15 32 a b) (fun a b ha hb => ask_v 15 32 a b (by decide) (by decide)) (fun a b W ha hb => ask7_any 32 32 w32 a ha b hb W)
theorem code_76 : CodeOK 76 :=
  code_two 76 16 32 32 48 32 32 (by decide) w32 w32 (by decide) (fun W => find_0 76 (by decide) (by decide) W _ _ _ stores_nil (stores_fn _) stores_nil (fun W => asking_at7 W)) (enters_of Tryd.func48 (by kernel_rfl) rfl)
    (fun a b => tv 16 32 a b) (fun a b ha hb => ask_v 16 32 a b (by decide) (by decide)) (fun a b W ha hb => ask8_any 32 32 w32 a ha b hb W)
theorem code_77 : CodeOK 77 :=
  code_two 77 17 32 32 49 32 32 (by decide) w32 w32 (by decide) (fun W => find_0 77 (by decide) (by decide) W _ _ _ stores_nil (stores_fn _) stores_nil (fun W => asking_at8 W)) (enters_of Tryd.func49 (by kernel_rfl) rfl)
    (fun a b => tv 17 32 a b) (fun a b ha hb => ask_v 17 32 a b (by decide) (by decide)) (fun a b W ha hb => ask9_any 32 32 w32 a ha b hb W)
theorem code_78 : CodeOK 78 :=
  code_two 78 18 32 32 50 32 32 (by decide) w32 w32 (by decide) (fun W => find_0 78 (by decide) (by decide) W _ _ _ stores_nil (stores_fn _) stores_nil (fun W => asking_at9 W)) (enters_of Tryd.func50 (by kernel_rfl) rfl)
    (fun a b => tv 18 32 a b) (fun a b ha hb => ask_v 18 32 a b (by decide) (by decide)) (fun a b W ha hb => ask10_any 32 32 w32 a ha b hb W)
theorem code_79 : CodeOK 79 :=
  code_two 79 19 32 32 51 32 32 (by decide) w32 w32 (by decide) (fun W => find_0 79 (by decide) (by decide) W _ _ _ stores_nil (stores_fn _) stores_nil (fun W => asking_at10 W)) (enters_of Tryd.func51 (by kernel_rfl) rfl)
    (fun a b => tv 19 32 a b) (fun a b ha hb => ask_v 19 32 a b (by decide) (by decide)) (fun a b W ha hb => ask11_any 32 32 w32 a ha b hb W)
theorem code_80 : CodeOK 80 :=
  code_one 80 0 64 32 39 64 32 (by decide) w64 w32 (fun W => find_1 80 (by decide) (by decide) W _ _ _ (stores_fn _) stores_nil stores_nil (fun W => asking_at0 W)) (enters_of Tryd.func39 (by kernel_rfl) rfl)
    (fun a => yes (decide (a = 0))) (fun a ha => le64_v (by decide) (Nat.le_trans (yes_le _) (by decide))) (fun a W hT ha => ask1_any 64 64 w64 a ha W)
theorem code_81 : CodeOK 81 :=
  code_two 81 10 64 32 41 64 32 (by decide) w64 w32 (by decide) (fun W => find_1 81 (by decide) (by decide) W _ _ _ stores_nil (stores_fn _) stores_nil (fun W => asking_at1 W)) (enters_of Tryd.func41 (by kernel_rfl) rfl)
    (fun a b => tv 10 64 a b) (fun a b ha hb => ask_v 10 64 a b (by decide) (by decide)) (fun a b W ha hb => ask2_any 64 64 w64 a ha b hb W)
theorem code_82 : CodeOK 82 :=
  code_two 82 11 64 32 42 64 32 (by decide) w64 w32 (by decide) (fun W => find_1 82 (by decide) (by decide) W _ _ _ stores_nil (stores_fn _) stores_nil (fun W => asking_at2 W)) (enters_of Tryd.func42 (by kernel_rfl) rfl)
    (fun a b => tv 11 64 a b) (fun a b ha hb => ask_v 11 64 a b (by decide) (by decide)) (fun a b W ha hb => ask3_any 64 64 w64 a ha b hb W)
theorem code_83 : CodeOK 83 :=
  code_two 83 12 64 32 43 64 32 (by decide) w64 w32 (by decide) (fun W => find_1 83 (by decide) (by decide) W _ _ _ stores_nil (stores_fn _) stores_nil (fun W => asking_at3 W)) (enters_of Tryd.func43 (by kernel_rfl) rfl)
    (fun a b => tv 12 64 a b) (fun a b ha hb => ask_v 12 64 a b (by decide) (by decide)) (fun a b W ha hb => ask4_any 64 64 w64 a ha b hb W)
theorem code_84 : CodeOK 84 :=
  code_two 84 13 64 32 45 64 32 (by decide) w64 w32 (by decide) (fun W => find_1 84 (by decide) (by decide) W _ _ _ stores_nil (stores_fn _) stores_nil (fun W => asking_at4 W)) (enters_of Tryd.func45 (by kernel_rfl) rfl)
    (fun a b => tv 13 64 a b) (fun a b ha hb => ask_v 13 64 a b (by decide) (by decide)) (fun a b W ha hb => ask5_any 64 64 w64 a ha b hb W)
theorem code_85 : CodeOK 85 :=
  code_two 85 14 64 32 46 64 32 (by decide) w64 w32 (by decide) (fun W => find_1 85 (by decide) (by decide) W _ _ _ stores_nil (stores_fn _) stores_nil (fun W => asking_at5 W)) (enters_of Tryd.func46 (by kernel_rfl) rfl)
    (fun a b => tv 14 64 a b) (fun a b ha hb => ask_v 14 64 a b (by decide) (by decide)) (fun a b W ha hb => ask6_any 64 64 w64 a ha b hb W)
theorem code_86 : CodeOK 86 :=
  code_two 86 15 64 32 47 64 32 (by decide) w64 w32 (by decide) (fun W => find_1 86 (by decide) (by decide) W _ _ _ stores_nil (stores_fn _) stores_nil (fun W => asking_at6 W)) (enters_of Tryd.func47 (by kernel_rfl) rfl)
    (fun a b => tv 15 64 a b) (fun a b ha hb => ask_v 15 64 a b (by decide) (by decide)) (fun a b W ha hb => ask7_any 64 64 w64 a ha b hb W)
theorem code_87 : CodeOK 87 :=
  code_two 87 16 64 32 48 64 32 (by decide) w64 w32 (by decide) (fun W => find_1 87 (by decide) (by decide) W _ _ _ stores_nil (stores_fn _) stores_nil (fun W => asking_at7 W)) (enters_of Tryd.func48 (by kernel_rfl) rfl)
    (fun a b => tv 16 64 a b) (fun a b ha hb => ask_v 16 64 a b (by decide) (by decide)) (fun a b W ha hb => ask8_any 64 64 w64 a ha b hb W)
theorem code_88 : CodeOK 88 :=
  code_two 88 17 64 32 49 64 32 (by decide) w64 w32 (by decide) (fun W => find_1 88 (by decide) (by decide) W _ _ _ stores_nil (stores_fn _) stores_nil (fun W => asking_at8 W)) (enters_of Tryd.func49 (by kernel_rfl) rfl)
    (fun a b => tv 17 64 a b) (fun a b ha hb => ask_v 17 64 a b (by decide) (by decide)) (fun a b W ha hb => ask9_any 64 64 w64 a ha b hb W)
theorem code_89 : CodeOK 89 :=
  code_two 89 18 64 32 50 64 32 (by decide) w64 w32 (by decide) (fun W => find_1 89 (by decide) (by decide) W _ _ _ stores_nil (stores_fn _) stores_nil (fun W => asking_at9 W)) (enters_of Tryd.func50 (by kernel_rfl) rfl)
    (fun a b => tv 18 64 a b) (fun a b ha hb => ask_v 18 64 a b (by decide) (by decide)) (fun a b W ha hb => ask10_any 64 64 w64 a ha b hb W)
theorem code_90 : CodeOK 90 :=
  code_two 90 19 64 32 51 64 32 (by decide) w64 w32 (by decide) (fun W => find_1 90 (by decide) (by decide) W _ _ _ stores_nil (stores_fn _) stores_nil (fun W => asking_at10 W)) (enters_of Tryd.func51 (by kernel_rfl) rfl)
    (fun a b => tv 19 64 a b) (fun a b ha hb => ask_v 19 64 a b (by decide) (by decide)) (fun a b W ha hb => ask11_any 64 64 w64 a ha b hb W)
theorem code_103 : CodeOK 103 :=
  code_one 103 1 32 32 52 32 32 (by decide) w32 w32 (fun W => find_2 103 (by decide) (by decide) W _ _ _ (stores_fn _) stores_nil stores_nil (fun W => reckoning_at0 W)) (enters_of Tryd.func52 (by kernel_rfl) rfl)
    (fun a => 32 - Lib.bitLen a) (fun a ha => le64_v (by decide) (by omega)) (fun a W hT ha => lead_any 32 32 w32 a ha W)
theorem code_104 : CodeOK 104 :=
  code_one 104 2 32 32 53 32 32 (by decide) w32 w32 (fun W => find_2 104 (by decide) (by decide) W _ _ _ (stores_fn _) stores_nil stores_nil (fun W => reckoning_at1 W)) (enters_of Tryd.func53 (by kernel_rfl) rfl)
    (fun a => if a = 0 then 32 else Lib.ctz 64 a) (fun a ha => le64_v (by decide) (trail_le 32 a (by decide) ha)) (fun a W hT ha => trail_any 32 32 w32 a ha W hT)
theorem code_105 : CodeOK 105 :=
  code_one 105 3 32 32 54 32 32 (by decide) w32 w32 (fun W => find_2 105 (by decide) (by decide) W _ _ _ (stores_fn _) stores_nil stores_nil (fun W => reckoning_at2 W)) (enters_of Tryd.func54 (by kernel_rfl) rfl)
    (fun a => pop 64 a) (fun a ha => le64_v (by decide) (pop_le64 a)) (fun a W hT ha => ones_any 32 32 w32 a ha W)
theorem code_106 : CodeOK 106 :=
  code_two 106 20 32 32 55 32 32 (by decide) w32 w32 (by decide) (fun W => find_2 106 (by decide) (by decide) W _ _ _ stores_nil (stores_fn _) stores_nil (fun W => reckoning_at3 W)) (enters_of Tryd.func55 (by kernel_rfl) rfl)
    (fun a b => (a + b) % 2 ^ 64) (fun a b ha hb => ⟨Nat.mod_lt _ (by decide), cut64 (by decide) _⟩) (fun a b W ha hb => rAdd_any 32 32 w32 a ha b hb W)
theorem code_107 : CodeOK 107 :=
  code_two 107 21 32 32 56 32 32 (by decide) w32 w32 (by decide) (fun W => find_2 107 (by decide) (by decide) W _ _ _ stores_nil (stores_fn _) stores_nil (fun W => reckoning_at4 W)) (enters_of Tryd.func56 (by kernel_rfl) rfl)
    (fun a b => md 64 ((a : Int) - (b : Int))) (fun a b ha hb => ⟨md_lt64 _, sub_cut 32 a b (by decide) hb⟩) (fun a b W ha hb => rSub_any 32 32 w32 a ha b hb W)
theorem code_108 : CodeOK 108 :=
  code_two 108 22 32 32 57 32 32 (by decide) w32 w32 (by decide) (fun W => find_2 108 (by decide) (by decide) W _ _ _ stores_nil (stores_fn _) stores_nil (fun W => reckoning_at5 W)) (enters_of Tryd.func57 (by kernel_rfl) rfl)
    (fun a b => a * b % 2 ^ 64) (fun a b ha hb => ⟨Nat.mod_lt _ (by decide), cut64 (by decide) _⟩) (fun a b W ha hb => rMul_any 32 32 w32 a ha b hb W)
theorem code_109 : CodeOK 109 :=
  code_bar 109 23 32 32 58 59 32 32 (by decide) w32 w32 (by decide) (fun W => find_2 109 (by decide) (by decide) W _ _ _ stores_nil (stores_fn _) (stores_fn _) (fun W => reckoning_at6 W)) (enters_of Tryd.func58 (by kernel_rfl) rfl) (enters_of Tryd.func59 (by kernel_rfl) rfl)
    (fun a b => md 64 ((sg 32 a).tdiv (sg 32 b))) (fun a b ha hb he => ⟨te_b0 (by decide) he, md_v (by decide) _⟩) (fun a b W ha hb => barsS_te 32 32 w32 a b ha hb W) (fun a b W ha hb h0 => rDivS_any 32 32 w32 a ha b hb h0 W)
theorem code_110 : CodeOK 110 :=
  code_bar 110 24 32 32 60 61 32 32 (by decide) w32 w32 (by decide) (fun W => find_2 110 (by decide) (by decide) W _ _ _ stores_nil (stores_fn _) (stores_fn _) (fun W => reckoning_at7 W)) (enters_of Tryd.func60 (by kernel_rfl) rfl) (enters_of Tryd.func61 (by kernel_rfl) rfl)
    (fun a b => a / b) (fun a b ha hb he => ⟨te_b0 (by decide) he, lt_v (by decide) (shr_div ha)⟩) (fun a b W ha hb => bars_te 24 32 32 (by decide) a b W) (fun a b W ha hb h0 => rDivU_any 32 32 w32 a ha b hb h0 W)
theorem code_111 : CodeOK 111 :=
  code_bar 111 25 32 32 62 61 32 32 (by decide) w32 w32 (by decide) (fun W => find_2 111 (by decide) (by decide) W _ _ _ stores_nil (stores_fn _) (stores_fn _) (fun W => reckoning_at8 W)) (enters_of Tryd.func62 (by kernel_rfl) rfl) (enters_of Tryd.func61 (by kernel_rfl) rfl)
    (fun a b => md 64 ((sg 32 a).tmod (sg 32 b))) (fun a b ha hb he => ⟨te_b0 (by decide) he, md_v (by decide) _⟩) (fun a b W ha hb => bars_te 25 32 32 (by decide) a b W) (fun a b W ha hb h0 => rRemS_any 32 32 w32 a ha b hb h0 W)
theorem code_112 : CodeOK 112 :=
  code_bar 112 26 32 32 63 61 32 32 (by decide) w32 w32 (by decide) (fun W => find_2 112 (by decide) (by decide) W _ _ _ stores_nil (stores_fn _) (stores_fn _) (fun W => reckoning_at9 W)) (enters_of Tryd.func63 (by kernel_rfl) rfl) (enters_of Tryd.func61 (by kernel_rfl) rfl)
    (fun a b => a % b) (fun a b ha hb he => ⟨te_b0 (by decide) he, lt_v (by decide) (Nat.lt_of_le_of_lt (Nat.mod_le a b) ha)⟩) (fun a b W ha hb => bars_te 26 32 32 (by decide) a b W) (fun a b W ha hb h0 => rRemU_any 32 32 w32 a ha b hb h0 W)
theorem code_113 : CodeOK 113 :=
  code_two 113 27 32 32 64 32 32 (by decide) w32 w32 (by decide) (fun W => find_2 113 (by decide) (by decide) W _ _ _ stores_nil (stores_fn _) stores_nil (fun W => reckoning_at10 W)) (enters_of Tryd.func64 (by kernel_rfl) rfl)
    (fun a b => a &&& b) (fun a b ha hb => lt_v (by decide) (Nat.lt_of_le_of_lt Nat.and_le_left ha)) (fun a b W ha hb => rAnd_any 32 32 w32 a ha b hb W)
theorem code_114 : CodeOK 114 :=
  code_two 114 28 32 32 65 32 32 (by decide) w32 w32 (by decide) (fun W => find_2 114 (by decide) (by decide) W _ _ _ stores_nil (stores_fn _) stores_nil (fun W => reckoning_at11 W)) (enters_of Tryd.func65 (by kernel_rfl) rfl)
    (fun a b => a ||| b) (fun a b ha hb => lt_v (by decide) (Nat.or_lt_two_pow ha hb)) (fun a b W ha hb => rOr_any 32 32 w32 a ha b hb W)
theorem code_115 : CodeOK 115 :=
  code_two 115 29 32 32 66 32 32 (by decide) w32 w32 (by decide) (fun W => find_2 115 (by decide) (by decide) W _ _ _ stores_nil (stores_fn _) stores_nil (fun W => reckoning_at12 W)) (enters_of Tryd.func66 (by kernel_rfl) rfl)
    (fun a b => a ^^^ b) (fun a b ha hb => lt_v (by decide) (Nat.xor_lt_two_pow ha hb)) (fun a b W ha hb => rXor_any 32 32 w32 a ha b hb W)
theorem code_116 : CodeOK 116 :=
  code_two 116 30 32 32 67 32 32 (by decide) w32 w32 (by decide) (fun W => find_2 116 (by decide) (by decide) W _ _ _ stores_nil (stores_fn _) stores_nil (fun W => reckoning_at13 W)) (enters_of Tryd.func67 (by kernel_rfl) rfl)
    (fun a b => a * 2 ^ (b % 32) % 2 ^ 64) (fun a b ha hb => ⟨Nat.mod_lt _ (by decide), cut64 (by decide) _⟩) (fun a b W ha hb => rShl_any 32 32 w32 a ha b hb W)
theorem code_117 : CodeOK 117 :=
  code_two 117 31 32 32 69 32 32 (by decide) w32 w32 (by decide) (fun W => find_2 117 (by decide) (by decide) W _ _ _ stores_nil (stores_fn _) stores_nil (fun W => reckoning_at14 W)) (enters_of Tryd.func69 (by kernel_rfl) rfl)
    (fun a b => md 64 (sg 32 a / ((2 ^ (b % 32) : Nat) : Int))) (fun a b ha hb => md_v (by decide) _) (fun a b W ha hb => rShrS_any 32 32 w32 a ha b hb W)
theorem code_118 : CodeOK 118 :=
  code_two 118 32 32 32 70 32 32 (by decide) w32 w32 (by decide) (fun W => find_2 118 (by decide) (by decide) W _ _ _ stores_nil (stores_fn _) stores_nil (fun W => reckoning_at15 W)) (enters_of Tryd.func70 (by kernel_rfl) rfl)
    (fun a b => a / 2 ^ (b % 32)) (fun a b ha hb => lt_v (by decide) (shr_lt ha)) (fun a b W ha hb => rShrU_any 32 32 w32 a ha b hb W)
theorem code_119 : CodeOK 119 :=
  code_two 119 33 32 32 71 32 32 (by decide) w32 w32 (by decide) (fun W => find_2 119 (by decide) (by decide) W _ _ _ stores_nil (stores_fn _) stores_nil (fun W => reckoning_at16 W)) (enters_of Tryd.func71 (by kernel_rfl) rfl)
    (fun a b => a * 2 ^ (b % 32) % 2 ^ 64 ||| a / 2 ^ (32 - b % 32)) (fun a b ha hb => ⟨Nat.or_lt_two_pow (n := 64) (Nat.mod_lt _ (by decide)) (lt_64 (w := 32) (by decide) (shr_lt ha)), or_cut _ _ 32 (by decide) (shr_lt ha)⟩) (fun a b W ha hb => up_any 32 32 w32 a ha b hb W)
theorem code_120 : CodeOK 120 :=
  code_two 120 34 32 32 72 32 32 (by decide) w32 w32 (by decide) (fun W => find_2 120 (by decide) (by decide) W _ _ _ stores_nil (stores_fn _) stores_nil (fun W => reckoning_at17 W)) (enters_of Tryd.func72 (by kernel_rfl) rfl)
    (fun a b => a / 2 ^ (b % 32) ||| a * 2 ^ (32 - b % 32) % 2 ^ 64) (fun a b ha hb => ⟨Nat.or_lt_two_pow (n := 64) (lt_64 (w := 32) (by decide) (shr_lt ha)) (Nat.mod_lt _ (by decide)), or_cut' _ _ 32 (by decide) (shr_lt ha)⟩) (fun a b W ha hb => down_any 32 32 w32 a ha b hb W)
theorem code_121 : CodeOK 121 :=
  code_one 121 1 64 64 52 64 64 (by decide) w64 w64 (fun W => find_3 121 (by decide) (by decide) W _ _ _ (stores_fn _) stores_nil stores_nil (fun W => reckoning_at0 W)) (enters_of Tryd.func52 (by kernel_rfl) rfl)
    (fun a => 64 - Lib.bitLen a) (fun a ha => le64_v (by decide) (by omega)) (fun a W hT ha => lead_any 64 64 w64 a ha W)
theorem code_122 : CodeOK 122 :=
  code_one 122 2 64 64 53 64 64 (by decide) w64 w64 (fun W => find_3 122 (by decide) (by decide) W _ _ _ (stores_fn _) stores_nil stores_nil (fun W => reckoning_at1 W)) (enters_of Tryd.func53 (by kernel_rfl) rfl)
    (fun a => if a = 0 then 64 else Lib.ctz 64 a) (fun a ha => le64_v (by decide) (trail_le 64 a (by decide) ha)) (fun a W hT ha => trail_any 64 64 w64 a ha W hT)
theorem code_123 : CodeOK 123 :=
  code_one 123 3 64 64 54 64 64 (by decide) w64 w64 (fun W => find_3 123 (by decide) (by decide) W _ _ _ (stores_fn _) stores_nil stores_nil (fun W => reckoning_at2 W)) (enters_of Tryd.func54 (by kernel_rfl) rfl)
    (fun a => pop 64 a) (fun a ha => le64_v (by decide) (pop_le64 a)) (fun a W hT ha => ones_any 64 64 w64 a ha W)
theorem code_124 : CodeOK 124 :=
  code_two 124 20 64 64 55 64 64 (by decide) w64 w64 (by decide) (fun W => find_3 124 (by decide) (by decide) W _ _ _ stores_nil (stores_fn _) stores_nil (fun W => reckoning_at3 W)) (enters_of Tryd.func55 (by kernel_rfl) rfl)
    (fun a b => (a + b) % 2 ^ 64) (fun a b ha hb => ⟨Nat.mod_lt _ (by decide), cut64 (by decide) _⟩) (fun a b W ha hb => rAdd_any 64 64 w64 a ha b hb W)
theorem code_125 : CodeOK 125 :=
  code_two 125 21 64 64 56 64 64 (by decide) w64 w64 (by decide) (fun W => find_3 125 (by decide) (by decide) W _ _ _ stores_nil (stores_fn _) stores_nil (fun W => reckoning_at4 W)) (enters_of Tryd.func56 (by kernel_rfl) rfl)
    (fun a b => md 64 ((a : Int) - (b : Int))) (fun a b ha hb => ⟨md_lt64 _, sub_cut 64 a b (by decide) hb⟩) (fun a b W ha hb => rSub_any 64 64 w64 a ha b hb W)
theorem code_126 : CodeOK 126 :=
  code_two 126 22 64 64 57 64 64 (by decide) w64 w64 (by decide) (fun W => find_3 126 (by decide) (by decide) W _ _ _ stores_nil (stores_fn _) stores_nil (fun W => reckoning_at5 W)) (enters_of Tryd.func57 (by kernel_rfl) rfl)
    (fun a b => a * b % 2 ^ 64) (fun a b ha hb => ⟨Nat.mod_lt _ (by decide), cut64 (by decide) _⟩) (fun a b W ha hb => rMul_any 64 64 w64 a ha b hb W)
theorem code_127 : CodeOK 127 :=
  code_bar 127 23 64 64 58 59 64 64 (by decide) w64 w64 (by decide) (fun W => find_3 127 (by decide) (by decide) W _ _ _ stores_nil (stores_fn _) (stores_fn _) (fun W => reckoning_at6 W)) (enters_of Tryd.func58 (by kernel_rfl) rfl) (enters_of Tryd.func59 (by kernel_rfl) rfl)
    (fun a b => md 64 ((sg 64 a).tdiv (sg 64 b))) (fun a b ha hb he => ⟨te_b0 (by decide) he, md_v (by decide) _⟩) (fun a b W ha hb => barsS_te 64 64 w64 a b ha hb W) (fun a b W ha hb h0 => rDivS_any 64 64 w64 a ha b hb h0 W)
theorem code_128 : CodeOK 128 :=
  code_bar 128 24 64 64 60 61 64 64 (by decide) w64 w64 (by decide) (fun W => find_3 128 (by decide) (by decide) W _ _ _ stores_nil (stores_fn _) (stores_fn _) (fun W => reckoning_at7 W)) (enters_of Tryd.func60 (by kernel_rfl) rfl) (enters_of Tryd.func61 (by kernel_rfl) rfl)
    (fun a b => a / b) (fun a b ha hb he => ⟨te_b0 (by decide) he, lt_v (by decide) (shr_div ha)⟩) (fun a b W ha hb => bars_te 24 64 64 (by decide) a b W) (fun a b W ha hb h0 => rDivU_any 64 64 w64 a ha b hb h0 W)
theorem code_129 : CodeOK 129 :=
  code_bar 129 25 64 64 62 61 64 64 (by decide) w64 w64 (by decide) (fun W => find_3 129 (by decide) (by decide) W _ _ _ stores_nil (stores_fn _) (stores_fn _) (fun W => reckoning_at8 W)) (enters_of Tryd.func62 (by kernel_rfl) rfl) (enters_of Tryd.func61 (by kernel_rfl) rfl)
    (fun a b => md 64 ((sg 64 a).tmod (sg 64 b))) (fun a b ha hb he => ⟨te_b0 (by decide) he, md_v (by decide) _⟩) (fun a b W ha hb => bars_te 25 64 64 (by decide) a b W) (fun a b W ha hb h0 => rRemS_any 64 64 w64 a ha b hb h0 W)
theorem code_130 : CodeOK 130 :=
  code_bar 130 26 64 64 63 61 64 64 (by decide) w64 w64 (by decide) (fun W => find_3 130 (by decide) (by decide) W _ _ _ stores_nil (stores_fn _) (stores_fn _) (fun W => reckoning_at9 W)) (enters_of Tryd.func63 (by kernel_rfl) rfl) (enters_of Tryd.func61 (by kernel_rfl) rfl)
    (fun a b => a % b) (fun a b ha hb he => ⟨te_b0 (by decide) he, lt_v (by decide) (Nat.lt_of_le_of_lt (Nat.mod_le a b) ha)⟩) (fun a b W ha hb => bars_te 26 64 64 (by decide) a b W) (fun a b W ha hb h0 => rRemU_any 64 64 w64 a ha b hb h0 W)
theorem code_131 : CodeOK 131 :=
  code_two 131 27 64 64 64 64 64 (by decide) w64 w64 (by decide) (fun W => find_3 131 (by decide) (by decide) W _ _ _ stores_nil (stores_fn _) stores_nil (fun W => reckoning_at10 W)) (enters_of Tryd.func64 (by kernel_rfl) rfl)
    (fun a b => a &&& b) (fun a b ha hb => lt_v (by decide) (Nat.lt_of_le_of_lt Nat.and_le_left ha)) (fun a b W ha hb => rAnd_any 64 64 w64 a ha b hb W)
theorem code_132 : CodeOK 132 :=
  code_two 132 28 64 64 65 64 64 (by decide) w64 w64 (by decide) (fun W => find_3 132 (by decide) (by decide) W _ _ _ stores_nil (stores_fn _) stores_nil (fun W => reckoning_at11 W)) (enters_of Tryd.func65 (by kernel_rfl) rfl)
    (fun a b => a ||| b) (fun a b ha hb => lt_v (by decide) (Nat.or_lt_two_pow ha hb)) (fun a b W ha hb => rOr_any 64 64 w64 a ha b hb W)
theorem code_133 : CodeOK 133 :=
  code_two 133 29 64 64 66 64 64 (by decide) w64 w64 (by decide) (fun W => find_3 133 (by decide) (by decide) W _ _ _ stores_nil (stores_fn _) stores_nil (fun W => reckoning_at12 W)) (enters_of Tryd.func66 (by kernel_rfl) rfl)
    (fun a b => a ^^^ b) (fun a b ha hb => lt_v (by decide) (Nat.xor_lt_two_pow ha hb)) (fun a b W ha hb => rXor_any 64 64 w64 a ha b hb W)
theorem code_134 : CodeOK 134 :=
  code_two 134 30 64 64 67 64 64 (by decide) w64 w64 (by decide) (fun W => find_3 134 (by decide) (by decide) W _ _ _ stores_nil (stores_fn _) stores_nil (fun W => reckoning_at13 W)) (enters_of Tryd.func67 (by kernel_rfl) rfl)
    (fun a b => a * 2 ^ (b % 64) % 2 ^ 64) (fun a b ha hb => ⟨Nat.mod_lt _ (by decide), cut64 (by decide) _⟩) (fun a b W ha hb => rShl_any 64 64 w64 a ha b hb W)
theorem code_135 : CodeOK 135 :=
  code_two 135 31 64 64 69 64 64 (by decide) w64 w64 (by decide) (fun W => find_3 135 (by decide) (by decide) W _ _ _ stores_nil (stores_fn _) stores_nil (fun W => reckoning_at14 W)) (enters_of Tryd.func69 (by kernel_rfl) rfl)
    (fun a b => md 64 (sg 64 a / ((2 ^ (b % 64) : Nat) : Int))) (fun a b ha hb => md_v (by decide) _) (fun a b W ha hb => rShrS_any 64 64 w64 a ha b hb W)
theorem code_136 : CodeOK 136 :=
  code_two 136 32 64 64 70 64 64 (by decide) w64 w64 (by decide) (fun W => find_3 136 (by decide) (by decide) W _ _ _ stores_nil (stores_fn _) stores_nil (fun W => reckoning_at15 W)) (enters_of Tryd.func70 (by kernel_rfl) rfl)
    (fun a b => a / 2 ^ (b % 64)) (fun a b ha hb => lt_v (by decide) (shr_lt ha)) (fun a b W ha hb => rShrU_any 64 64 w64 a ha b hb W)
theorem code_137 : CodeOK 137 :=
  code_two 137 33 64 64 71 64 64 (by decide) w64 w64 (by decide) (fun W => find_3 137 (by decide) (by decide) W _ _ _ stores_nil (stores_fn _) stores_nil (fun W => reckoning_at16 W)) (enters_of Tryd.func71 (by kernel_rfl) rfl)
    (fun a b => a * 2 ^ (b % 64) % 2 ^ 64 ||| a / 2 ^ (64 - b % 64)) (fun a b ha hb => ⟨Nat.or_lt_two_pow (n := 64) (Nat.mod_lt _ (by decide)) (lt_64 (w := 64) (by decide) (shr_lt ha)), or_cut _ _ 64 (by decide) (shr_lt ha)⟩) (fun a b W ha hb => up_any 64 64 w64 a ha b hb W)
theorem code_138 : CodeOK 138 :=
  code_two 138 34 64 64 72 64 64 (by decide) w64 w64 (by decide) (fun W => find_3 138 (by decide) (by decide) W _ _ _ stores_nil (stores_fn _) stores_nil (fun W => reckoning_at17 W)) (enters_of Tryd.func72 (by kernel_rfl) rfl)
    (fun a b => a / 2 ^ (b % 64) ||| a * 2 ^ (64 - b % 64) % 2 ^ 64) (fun a b ha hb => ⟨Nat.or_lt_two_pow (n := 64) (lt_64 (w := 64) (by decide) (shr_lt ha)) (Nat.mod_lt _ (by decide)), or_cut' _ _ 64 (by decide) (shr_lt ha)⟩) (fun a b W ha hb => down_any 64 64 w64 a ha b hb W)
theorem code_167 : CodeOK 167 :=
  code_one 167 7 64 32 73 64 32 (by decide) w64 w32 (fun W => find_4 167 (by decide) (by decide) W _ _ _ (stores_fn _) stores_nil stores_nil (fun W => wrapping_any _ W)) (enters_of Tryd.func73 (by kernel_rfl) rfl)
    (fun a => a) (fun a ha => ⟨lt_64 (w := 64) (by decide) ha, rfl⟩) (fun a W hT ha => itself_any 64 64 w64 a ha W)
theorem code_172 : CodeOK 172 :=
  code_one 172 8 32 64 74 32 64 (by decide) w32 w64 (fun W => find_5 172 (by decide) (by decide) W _ _ _ (stores_fn _) stores_nil stores_nil (fun W => widening_at0 W)) (enters_of Tryd.func74 (by kernel_rfl) rfl)
    (fun a => md 64 (sg 32 (a % 4294967296))) (fun a ha => md_v (w := 64) (by decide) _) (fun a W hT ha => word_any 32 32 w32 a ha W)
theorem code_173 : CodeOK 173 :=
  code_one 173 9 32 64 73 32 64 (by decide) w32 w64 (fun W => find_5 173 (by decide) (by decide) W _ _ _ (stores_fn _) stores_nil stores_nil (fun W => widening_at1 W)) (enters_of Tryd.func73 (by kernel_rfl) rfl)
    (fun a => a) (fun a ha => ⟨lt_64 (w := 32) (by decide) ha, Nat.mod_eq_of_lt (lt_64 (w := 32) (by decide) ha)⟩) (fun a W hT ha => itself_any 32 32 w32 a ha W)
theorem code_192 : CodeOK 192 :=
  code_one 192 4 32 32 75 32 32 (by decide) w32 w32 (fun W => find_6 192 (by decide) (by decide) W _ _ _ (stores_fn _) stores_nil stores_nil (fun W => extending_at0 W)) (enters_of Tryd.func75 (by kernel_rfl) rfl)
    (fun a => md 64 (sg 8 (a % 256))) (fun a ha => md_v (w := 32) (by decide) _) (fun a W hT ha => byte_any 32 32 w32 a ha W)
theorem code_193 : CodeOK 193 :=
  code_one 193 5 32 32 76 32 32 (by decide) w32 w32 (fun W => find_6 193 (by decide) (by decide) W _ _ _ (stores_fn _) stores_nil stores_nil (fun W => extending_at1 W)) (enters_of Tryd.func76 (by kernel_rfl) rfl)
    (fun a => md 64 (sg 16 (a % 65536))) (fun a ha => md_v (w := 32) (by decide) _) (fun a W hT ha => half_any 32 32 w32 a ha W)
theorem code_194 : CodeOK 194 :=
  code_one 194 4 64 64 75 64 64 (by decide) w64 w64 (fun W => find_7 194 (by decide) (by decide) W _ _ _ (stores_fn _) stores_nil stores_nil (fun W => extending_at0 W)) (enters_of Tryd.func75 (by kernel_rfl) rfl)
    (fun a => md 64 (sg 8 (a % 256))) (fun a ha => md_v (w := 64) (by decide) _) (fun a W hT ha => byte_any 64 64 w64 a ha W)
theorem code_195 : CodeOK 195 :=
  code_one 195 5 64 64 76 64 64 (by decide) w64 w64 (fun W => find_7 195 (by decide) (by decide) W _ _ _ (stores_fn _) stores_nil stores_nil (fun W => extending_at1 W)) (enters_of Tryd.func76 (by kernel_rfl) rfl)
    (fun a => md 64 (sg 16 (a % 65536))) (fun a ha => md_v (w := 64) (by decide) _) (fun a W hT ha => half_any 64 64 w64 a ha W)
theorem code_196 : CodeOK 196 :=
  code_one 196 6 64 64 74 64 64 (by decide) w64 w64 (fun W => find_7 196 (by decide) (by decide) W _ _ _ (stores_fn _) stores_nil stores_nil (fun W => extending_at2 W)) (enters_of Tryd.func74 (by kernel_rfl) rfl)
    (fun a => md 64 (sg 32 (a % 4294967296))) (fun a ha => md_v (w := 64) (by decide) _) (fun a W hT ha => word_any 64 64 w64 a ha W)
theorem kind_gap {op : Int} (h : op ≤ 68 ∨ (91 ≤ op ∧ op ≤ 102) ∨ (139 ≤ op ∧ op ≤ 166) ∨ (168 ≤ op ∧ op ≤ 171) ∨ (174 ≤ op ∧ op ≤ 191) ∨ 197 ≤ op) : kind op = (0, 0, 0, 0) := by
  unfold kind
  repeat (rw [if_neg (by omega)])
/-- The code's calls at every opcode. -/
theorem code_any (op : Int) (h0 : -9223372036854775808 ≤ op) (h1 : op < 9223372036854775808) : CodeOK op := by
  by_cases h : op ≤ 68
  · exact code_none op (kind_gap (by omega)) (fun W => find_gap0 op h0 h W)
  by_cases h : 91 ≤ op ∧ op ≤ 102
  · exact code_none op (kind_gap (by omega)) (fun W => find_gap1 op h.1 h.2 W)
  by_cases h : 139 ≤ op ∧ op ≤ 166
  · exact code_none op (kind_gap (by omega)) (fun W => find_gap2 op h.1 h.2 W)
  by_cases h : 168 ≤ op ∧ op ≤ 171
  · exact code_none op (kind_gap (by omega)) (fun W => find_gap3 op h.1 h.2 W)
  by_cases h : 174 ≤ op ∧ op ≤ 191
  · exact code_none op (kind_gap (by omega)) (fun W => find_gap4 op h.1 h.2 W)
  by_cases h : 197 ≤ op
  · exact code_none op (kind_gap (by omega)) (fun W => find_gap5 op h h1 W)
  by_cases h : op = 69
  · subst h; exact code_69
  by_cases h : op = 70
  · subst h; exact code_70
  by_cases h : op = 71
  · subst h; exact code_71
  by_cases h : op = 72
  · subst h; exact code_72
  by_cases h : op = 73
  · subst h; exact code_73
  by_cases h : op = 74
  · subst h; exact code_74
  by_cases h : op = 75
  · subst h; exact code_75
  by_cases h : op = 76
  · subst h; exact code_76
  by_cases h : op = 77
  · subst h; exact code_77
  by_cases h : op = 78
  · subst h; exact code_78
  by_cases h : op = 79
  · subst h; exact code_79
  by_cases h : op = 80
  · subst h; exact code_80
  by_cases h : op = 81
  · subst h; exact code_81
  by_cases h : op = 82
  · subst h; exact code_82
  by_cases h : op = 83
  · subst h; exact code_83
  by_cases h : op = 84
  · subst h; exact code_84
  by_cases h : op = 85
  · subst h; exact code_85
  by_cases h : op = 86
  · subst h; exact code_86
  by_cases h : op = 87
  · subst h; exact code_87
  by_cases h : op = 88
  · subst h; exact code_88
  by_cases h : op = 89
  · subst h; exact code_89
  by_cases h : op = 90
  · subst h; exact code_90
  by_cases h : op = 103
  · subst h; exact code_103
  by_cases h : op = 104
  · subst h; exact code_104
  by_cases h : op = 105
  · subst h; exact code_105
  by_cases h : op = 106
  · subst h; exact code_106
  by_cases h : op = 107
  · subst h; exact code_107
  by_cases h : op = 108
  · subst h; exact code_108
  by_cases h : op = 109
  · subst h; exact code_109
  by_cases h : op = 110
  · subst h; exact code_110
  by_cases h : op = 111
  · subst h; exact code_111
  by_cases h : op = 112
  · subst h; exact code_112
  by_cases h : op = 113
  · subst h; exact code_113
  by_cases h : op = 114
  · subst h; exact code_114
  by_cases h : op = 115
  · subst h; exact code_115
  by_cases h : op = 116
  · subst h; exact code_116
  by_cases h : op = 117
  · subst h; exact code_117
  by_cases h : op = 118
  · subst h; exact code_118
  by_cases h : op = 119
  · subst h; exact code_119
  by_cases h : op = 120
  · subst h; exact code_120
  by_cases h : op = 121
  · subst h; exact code_121
  by_cases h : op = 122
  · subst h; exact code_122
  by_cases h : op = 123
  · subst h; exact code_123
  by_cases h : op = 124
  · subst h; exact code_124
  by_cases h : op = 125
  · subst h; exact code_125
  by_cases h : op = 126
  · subst h; exact code_126
  by_cases h : op = 127
  · subst h; exact code_127
  by_cases h : op = 128
  · subst h; exact code_128
  by_cases h : op = 129
  · subst h; exact code_129
  by_cases h : op = 130
  · subst h; exact code_130
  by_cases h : op = 131
  · subst h; exact code_131
  by_cases h : op = 132
  · subst h; exact code_132
  by_cases h : op = 133
  · subst h; exact code_133
  by_cases h : op = 134
  · subst h; exact code_134
  by_cases h : op = 135
  · subst h; exact code_135
  by_cases h : op = 136
  · subst h; exact code_136
  by_cases h : op = 137
  · subst h; exact code_137
  by_cases h : op = 138
  · subst h; exact code_138
  by_cases h : op = 167
  · subst h; exact code_167
  by_cases h : op = 172
  · subst h; exact code_172
  by_cases h : op = 173
  · subst h; exact code_173
  by_cases h : op = 192
  · subst h; exact code_192
  by_cases h : op = 193
  · subst h; exact code_193
  by_cases h : op = 194
  · subst h; exact code_194
  by_cases h : op = 195
  · subst h; exact code_195
  by_cases h : op = 196
  · subst h; exact code_196
  omega
end Go.Proofs.YtnhnbcjffnlicaaDoor
