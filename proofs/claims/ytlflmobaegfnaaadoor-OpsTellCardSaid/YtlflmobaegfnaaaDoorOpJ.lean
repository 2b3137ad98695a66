/-
  Layer 5, the document's side: is, Known: the whole.
-/
import Derived.Test.YtlflmobaegfnaaaDoorOpP
import Derived.Test.YtlflmobaegfnaaaDoorOpJ0
import Derived.Test.YtlflmobaegfnaaaDoorOpJ1
import Derived.Test.YtlflmobaegfnaaaDoorOpJ2
import Derived.Test.YtlflmobaegfnaaaDoorOpJ3
import Derived.Test.YtlflmobaegfnaaaDoorKitE
namespace Go.Proofs.YtlflmobaegfnaaaDoor
open Go.RowKit
set_option linter.unusedVariables false
set_option linter.unusedSimpArgs false
set_option maxRecDepth 100000

theorem ris_any (op : Int) (w : World) : Calls Tryd.prog 54 #[.int .i64 op] w fun e w' => e = .returned (.bool (Op5.inst op)) ∧ w' = w := by
  have ht : ∀ b, Op5.inst op = b → Op5.inst op = b := fun _ h => h
  rcases (by omega : (op ≤ -1) ∨ (0 ≤ op ∧ op ≤ 5) ∨ (6 ≤ op ∧ op ≤ 7) ∨ (8 ≤ op ∧ op ≤ 8) ∨ (9 ≤ op ∧ op ≤ 9) ∨ (10 ≤ op ∧ op ≤ 21) ∨ (22 ≤ op ∧ op ≤ 25) ∨ (26 ≤ op ∧ op ≤ 28) ∨ (29 ≤ op ∧ op ≤ 30) ∨ (31 ≤ op ∧ op ≤ 38) ∨ (39 ≤ op ∧ op ≤ 39) ∨ (40 ≤ op ∧ op ≤ 40) ∨ (41 ≤ op ∧ op ≤ 41) ∨ (42 ≤ op ∧ op ≤ 43) ∨ (44 ≤ op ∧ op ≤ 55) ∨ (56 ≤ op ∧ op ≤ 57) ∨ (58 ≤ op ∧ op ≤ 66) ∨ (67 ≤ op ∧ op ≤ 68) ∨ (69 ≤ op ∧ op ≤ 90) ∨ (91 ≤ op ∧ op ≤ 102) ∨ (103 ≤ op ∧ op ≤ 138) ∨ (139 ≤ op ∧ op ≤ 166) ∨ (167 ≤ op ∧ op ≤ 167) ∨ (168 ≤ op ∧ op ≤ 171) ∨ (172 ≤ op ∧ op ≤ 172) ∨ (173 ≤ op ∧ op ≤ 173) ∨ (174 ≤ op ∧ op ≤ 191) ∨ (192 ≤ op ∧ op ≤ 196) ∨ (197 ≤ op ∧ op ≤ 207) ∨ (208 ≤ op ∧ op ≤ 214) ∨ (215 ≤ op ∧ op ≤ 255) ∨ (256 ≤ op ∧ op ≤ 64255) ∨ (64256 ≤ op ∧ op ≤ 64286) ∨ (64287 ≤ op ∧ op ≤ 64519) ∨ (64520 ≤ op ∧ op ≤ 64529) ∨ (64530 ≤ op)) with h | h | h | h | h | h | h | h | h | h | h | h | h | h | h | h | h | h | h | h | h | h | h | h | h | h | h | h | h | h | h | h | h | h | h | h
  · rw [show Op5.inst op = false from Bool.eq_false_iff.2 (fun e => by have h2 := (Op5.inst_iff op).1 e; omega)]
    exact is_p0 op w h
  · rw [(Op5.inst_iff op).2 (by omega)]
    exact is_p1 op w h.1 h.2
  · rw [show Op5.inst op = false from Bool.eq_false_iff.2 (fun e => by have h2 := (Op5.inst_iff op).1 e; omega)]
    exact is_p2 op w h.1 h.2
  · rw [(Op5.inst_iff op).2 (by omega)]
    exact is_p3 op w h.1 h.2
  · rw [show Op5.inst op = false from Bool.eq_false_iff.2 (fun e => by have h2 := (Op5.inst_iff op).1 e; omega)]
    exact is_p4 op w h.1 h.2
  · rw [(Op5.inst_iff op).2 (by omega)]
    exact is_p5 op w h.1 h.2
  · rw [show Op5.inst op = false from Bool.eq_false_iff.2 (fun e => by have h2 := (Op5.inst_iff op).1 e; omega)]
    exact is_p6 op w h.1 h.2
  · rw [(Op5.inst_iff op).2 (by omega)]
    exact is_p7 op w h.1 h.2
  · rw [show Op5.inst op = false from Bool.eq_false_iff.2 (fun e => by have h2 := (Op5.inst_iff op).1 e; omega)]
    exact is_p8 op w h.1 h.2
  · rw [(Op5.inst_iff op).2 (by omega)]
    exact is_p9 op w h.1 h.2
  · rw [show Op5.inst op = false from Bool.eq_false_iff.2 (fun e => by have h2 := (Op5.inst_iff op).1 e; omega)]
    exact is_p10 op w h.1 h.2
  · rw [(Op5.inst_iff op).2 (by omega)]
    exact is_p11 op w h.1 h.2
  · rw [(Op5.inst_iff op).2 (by omega)]
    exact is_p12 op w h.1 h.2
  · rw [show Op5.inst op = false from Bool.eq_false_iff.2 (fun e => by have h2 := (Op5.inst_iff op).1 e; omega)]
    exact is_p13 op w h.1 h.2
  · rw [(Op5.inst_iff op).2 (by omega)]
    exact is_p14 op w h.1 h.2
  · rw [show Op5.inst op = false from Bool.eq_false_iff.2 (fun e => by have h2 := (Op5.inst_iff op).1 e; omega)]
    exact is_p15 op w h.1 h.2
  · rw [(Op5.inst_iff op).2 (by omega)]
    exact is_p16 op w h.1 h.2
  · rw [show Op5.inst op = false from Bool.eq_false_iff.2 (fun e => by have h2 := (Op5.inst_iff op).1 e; omega)]
    exact is_p17 op w h.1 h.2
  · rw [(Op5.inst_iff op).2 (by omega)]
    exact is_p18 op w h.1 h.2
  · rw [show Op5.inst op = false from Bool.eq_false_iff.2 (fun e => by have h2 := (Op5.inst_iff op).1 e; omega)]
    exact is_p19 op w h.1 h.2
  · rw [(Op5.inst_iff op).2 (by omega)]
    exact is_p20 op w h.1 h.2
  · rw [show Op5.inst op = false from Bool.eq_false_iff.2 (fun e => by have h2 := (Op5.inst_iff op).1 e; omega)]
    exact is_p21 op w h.1 h.2
  · rw [(Op5.inst_iff op).2 (by omega)]
    exact is_p22 op w h.1 h.2
  · rw [show Op5.inst op = false from Bool.eq_false_iff.2 (fun e => by have h2 := (Op5.inst_iff op).1 e; omega)]
    exact is_p23 op w h.1 h.2
  · rw [(Op5.inst_iff op).2 (by omega)]
    exact is_p24 op w h.1 h.2
  · rw [(Op5.inst_iff op).2 (by omega)]
    exact is_p25 op w h.1 h.2
  · rw [show Op5.inst op = false from Bool.eq_false_iff.2 (fun e => by have h2 := (Op5.inst_iff op).1 e; omega)]
    exact is_p26 op w h.1 h.2
  · rw [(Op5.inst_iff op).2 (by omega)]
    exact is_p27 op w h.1 h.2
  · rw [show Op5.inst op = false from Bool.eq_false_iff.2 (fun e => by have h2 := (Op5.inst_iff op).1 e; omega)]
    exact is_p28 op w h.1 h.2
  · rw [(Op5.inst_iff op).2 (by omega)]
    exact is_p29 op w h.1 h.2
  · rw [show Op5.inst op = false from Bool.eq_false_iff.2 (fun e => by have h2 := (Op5.inst_iff op).1 e; omega)]
    exact is_p30 op w h.1 h.2
  · rw [show Op5.inst op = false from Bool.eq_false_iff.2 (fun e => by have h2 := (Op5.inst_iff op).1 e; omega)]
    exact is_p31 op w h.1 h.2
  · rw [(Op5.inst_iff op).2 (by omega)]
    exact is_p32 op w h.1 h.2
  · rw [show Op5.inst op = false from Bool.eq_false_iff.2 (fun e => by have h2 := (Op5.inst_iff op).1 e; omega)]
    exact is_p33 op w h.1 h.2
  · rw [(Op5.inst_iff op).2 (by omega)]
    exact is_p34 op w h.1 h.2
  · rw [show Op5.inst op = false from Bool.eq_false_iff.2 (fun e => by have h2 := (Op5.inst_iff op).1 e; omega)]
    exact is_p35 op w h
theorem rknown_any (op : Int) (w : World) : Calls Tryd.prog 31 #[.int .i64 op] w fun e w' => e = .returned (.bool (Op5.knownOf op)) ∧ w' = w := by
  have ht : ∀ b, Op5.knownOf op = b → Op5.knownOf op = b := fun _ h => h
  rcases (by omega : (op ≤ 41) ∨ (42 ≤ op ∧ op ≤ 42) ∨ (43 ≤ op ∧ op ≤ 43) ∨ (44 ≤ op ∧ op ≤ 55) ∨ (56 ≤ op ∧ op ≤ 56) ∨ (57 ≤ op ∧ op ≤ 57) ∨ (58 ≤ op ∧ op ≤ 66) ∨ (67 ≤ op ∧ op ≤ 67) ∨ (68 ≤ op ∧ op ≤ 68) ∨ (69 ≤ op ∧ op ≤ 90) ∨ (91 ≤ op ∧ op ≤ 102) ∨ (103 ≤ op ∧ op ≤ 138) ∨ (139 ≤ op ∧ op ≤ 166) ∨ (167 ≤ op ∧ op ≤ 167) ∨ (168 ≤ op ∧ op ≤ 171) ∨ (172 ≤ op ∧ op ≤ 173) ∨ (174 ≤ op ∧ op ≤ 191) ∨ (192 ≤ op ∧ op ≤ 252) ∨ (253 ≤ op ∧ op ≤ 253) ∨ (254 ≤ op ∧ op ≤ 64511) ∨ (64512 ≤ op ∧ op ≤ 64519) ∨ (64520 ≤ op)) with h | h | h | h | h | h | h | h | h | h | h | h | h | h | h | h | h | h | h | h | h | h
  · rw [show Op5.knownOf op = false from Bool.eq_false_iff.2 (fun e => by have h2 := (Op5.known_iff op).1 e; omega)]
    exact kn_p0 op w h
  · rw [(Op5.known_iff op).2 (by omega)]
    exact kn_p1 op w h.1 h.2
  · rw [(Op5.known_iff op).2 (by omega)]
    exact kn_p2 op w h.1 h.2
  · rw [show Op5.knownOf op = false from Bool.eq_false_iff.2 (fun e => by have h2 := (Op5.known_iff op).1 e; omega)]
    exact kn_p3 op w h.1 h.2
  · rw [(Op5.known_iff op).2 (by omega)]
    exact kn_p4 op w h.1 h.2
  · rw [(Op5.known_iff op).2 (by omega)]
    exact kn_p5 op w h.1 h.2
  · rw [show Op5.knownOf op = false from Bool.eq_false_iff.2 (fun e => by have h2 := (Op5.known_iff op).1 e; omega)]
    exact kn_p6 op w h.1 h.2
  · rw [(Op5.known_iff op).2 (by omega)]
    exact kn_p7 op w h.1 h.2
  · rw [(Op5.known_iff op).2 (by omega)]
    exact kn_p8 op w h.1 h.2
  · rw [show Op5.knownOf op = false from Bool.eq_false_iff.2 (fun e => by have h2 := (Op5.known_iff op).1 e; omega)]
    exact kn_p9 op w h.1 h.2
  · rw [(Op5.known_iff op).2 (by omega)]
    exact kn_p10 op w h.1 h.2
  · rw [show Op5.knownOf op = false from Bool.eq_false_iff.2 (fun e => by have h2 := (Op5.known_iff op).1 e; omega)]
    exact kn_p11 op w h.1 h.2
  · rw [(Op5.known_iff op).2 (by omega)]
    exact kn_p12 op w h.1 h.2
  · rw [show Op5.knownOf op = false from Bool.eq_false_iff.2 (fun e => by have h2 := (Op5.known_iff op).1 e; omega)]
    exact kn_p13 op w h.1 h.2
  · rw [(Op5.known_iff op).2 (by omega)]
    exact kn_p14 op w h.1 h.2
  · rw [show Op5.knownOf op = false from Bool.eq_false_iff.2 (fun e => by have h2 := (Op5.known_iff op).1 e; omega)]
    exact kn_p15 op w h.1 h.2
  · rw [(Op5.known_iff op).2 (by omega)]
    exact kn_p16 op w h.1 h.2
  · rw [show Op5.knownOf op = false from Bool.eq_false_iff.2 (fun e => by have h2 := (Op5.known_iff op).1 e; omega)]
    exact kn_p17 op w h.1 h.2
  · rw [(Op5.known_iff op).2 (by omega)]
    exact kn_p18 op w h.1 h.2
  · rw [show Op5.knownOf op = false from Bool.eq_false_iff.2 (fun e => by have h2 := (Op5.known_iff op).1 e; omega)]
    exact kn_p19 op w h.1 h.2
  · rw [(Op5.known_iff op).2 (by omega)]
    exact kn_p20 op w h.1 h.2
  · rw [show Op5.knownOf op = false from Bool.eq_false_iff.2 (fun e => by have h2 := (Op5.known_iff op).1 e; omega)]
    exact kn_p21 op w h
end Go.Proofs.YtlflmobaegfnaaaDoor
