/-
  num's tables of operations, walked.
-/
import Derived.Test.YtnhnbcjffnlicaaDoorNumA
import Derived.Laws.EntriesVeiled
namespace Go.Proofs.YtnhnbcjffnlicaaDoor
open Go.RowKit Num
set_option linter.unusedVariables false

/-- What a table tells: the function of one number, of two, and what bars it. -/
def Told (x y z : Value) (W : World) (e : Ending) (W' : World) : Prop := e = .returned (.agg #[x, y, z]) ∧ W' = W.alloc (.cells #[x, y, z] 46)
theorem wrapping_any (v : Int) (W : World) : Calls Tryd.prog 33 #[.int .i64 v] W (Told (.func (.func 73) #[] #[]) .nilFunc .nilFunc W) := by
  go_enter Tryd.func33, Tryd.ntmps33
  go_wp2
  exact bodyPost_ret (v := .agg #[(.func (.func 73) #[] #[]), .nilFunc, .nilFunc]) (by simp [results, Tryd.results33, go_sem]) rfl ⟨rfl, rfl⟩
theorem asking_010 (k : Nat) (hk : k < 11) (j1 : Nat) (hi : ∀ w : World, (Instr.index 68 (.agg #[(.func (.func 39) #[] #[]), .nilFunc, .nilFunc, .nilFunc, (.func (.func 41) #[] #[]), .nilFunc, .nilFunc, (.func (.func 42) #[] #[]), .nilFunc, .nilFunc, (.func (.func 43) #[] #[]), .nilFunc, .nilFunc, (.func (.func 45) #[] #[]), .nilFunc, .nilFunc, (.func (.func 46) #[] #[]), .nilFunc, .nilFunc, (.func (.func 47) #[] #[]), .nilFunc, .nilFunc, (.func (.func 48) #[] #[]), .nilFunc, .nilFunc, (.func (.func 49) #[] #[]), .nilFunc, .nilFunc, (.func (.func 50) #[] #[]), .nilFunc, .nilFunc, (.func (.func 51) #[] #[]), .nilFunc]) (.int .i64 k)).run Tryd.prog w = .ok (.agg #[.nilFunc, (.func (.func j1) #[] #[]), .nilFunc]) w) (W : World) : Calls Tryd.prog 31 #[.int .i64 k] W (Told .nilFunc (.func (.func j1) #[] #[]) .nilFunc W) := by
  go_enter Tryd.func31, Tryd.ntmps31
  go_wp2
  exact bodyPost_ret (v := .agg #[.nilFunc, (.func (.func j1) #[] #[]), .nilFunc]) (by simp [results, Tryd.results31, go_sem]) rfl ⟨rfl, rfl⟩
theorem asking_100 (k : Nat) (hk : k < 11) (j0 : Nat) (hi : ∀ w : World, (Instr.index 68 (.agg #[(.func (.func 39) #[] #[]), .nilFunc, .nilFunc, .nilFunc, (.func (.func 41) #[] #[]), .nilFunc, .nilFunc, (.func (.func 42) #[] #[]), .nilFunc, .nilFunc, (.func (.func 43) #[] #[]), .nilFunc, .nilFunc, (.func (.func 45) #[] #[]), .nilFunc, .nilFunc, (.func (.func 46) #[] #[]), .nilFunc, .nilFunc, (.func (.func 47) #[] #[]), .nilFunc, .nilFunc, (.func (.func 48) #[] #[]), .nilFunc, .nilFunc, (.func (.func 49) #[] #[]), .nilFunc, .nilFunc, (.func (.func 50) #[] #[]), .nilFunc, .nilFunc, (.func (.func 51) #[] #[]), .nilFunc]) (.int .i64 k)).run Tryd.prog w = .ok (.agg #[(.func (.func j0) #[] #[]), .nilFunc, .nilFunc]) w) (W : World) : Calls Tryd.prog 31 #[.int .i64 k] W (Told (.func (.func j0) #[] #[]) .nilFunc .nilFunc W) := by
  go_enter Tryd.func31, Tryd.ntmps31
  go_wp2
  exact bodyPost_ret (v := .agg #[(.func (.func j0) #[] #[]), .nilFunc, .nilFunc]) (by simp [results, Tryd.results31, go_sem]) rfl ⟨rfl, rfl⟩
theorem asking_at0 (W : World) : Calls Tryd.prog 31 #[.int .i64 0] W (Told (.func (.func 39) #[] #[]) .nilFunc .nilFunc W) := asking_100 0 (by decide) _ (fun _ => by kernel_rfl) W
theorem asking_at1 (W : World) : Calls Tryd.prog 31 #[.int .i64 1] W (Told .nilFunc (.func (.func 41) #[] #[]) .nilFunc W) := asking_010 1 (by decide) _ (fun _ => by kernel_rfl) W
theorem asking_at2 (W : World) : Calls Tryd.prog 31 #[.int .i64 2] W (Told .nilFunc (.func (.func 42) #[] #[]) .nilFunc W) := asking_010 2 (by decide) _ (fun _ => by kernel_rfl) W
theorem asking_at3 (W : World) : Calls Tryd.prog 31 #[.int .i64 3] W (Told .nilFunc (.func (.func 43) #[] #[]) .nilFunc W) := asking_010 3 (by decide) _ (fun _ => by kernel_rfl) W
theorem asking_at4 (W : World) : Calls Tryd.prog 31 #[.int .i64 4] W (Told .nilFunc (.func (.func 45) #[] #[]) .nilFunc W) := asking_010 4 (by decide) _ (fun _ => by kernel_rfl) W
theorem asking_at5 (W : World) : Calls Tryd.prog 31 #[.int .i64 5] W (Told .nilFunc (.func (.func 46) #[] #[]) .nilFunc W) := asking_010 5 (by decide) _ (fun _ => by kernel_rfl) W
theorem asking_at6 (W : World) : Calls Tryd.prog 31 #[.int .i64 6] W (Told .nilFunc (.func (.func 47) #[] #[]) .nilFunc W) := asking_010 6 (by decide) _ (fun _ => by kernel_rfl) W
theorem asking_at7 (W : World) : Calls Tryd.prog 31 #[.int .i64 7] W (Told .nilFunc (.func (.func 48) #[] #[]) .nilFunc W) := asking_010 7 (by decide) _ (fun _ => by kernel_rfl) W
theorem asking_at8 (W : World) : Calls Tryd.prog 31 #[.int .i64 8] W (Told .nilFunc (.func (.func 49) #[] #[]) .nilFunc W) := asking_010 8 (by decide) _ (fun _ => by kernel_rfl) W
theorem asking_at9 (W : World) : Calls Tryd.prog 31 #[.int .i64 9] W (Told .nilFunc (.func (.func 50) #[] #[]) .nilFunc W) := asking_010 9 (by decide) _ (fun _ => by kernel_rfl) W
theorem asking_at10 (W : World) : Calls Tryd.prog 31 #[.int .i64 10] W (Told .nilFunc (.func (.func 51) #[] #[]) .nilFunc W) := asking_010 10 (by decide) _ (fun _ => by kernel_rfl) W
theorem reckoning_010 (k : Nat) (hk : k < 18) (j1 : Nat) (hi : ∀ w : World, (Instr.index 72 (.agg #[(.func (.func 52) #[] #[]), .nilFunc, .nilFunc, (.func (.func 53) #[] #[]), .nilFunc, .nilFunc, (.func (.func 54) #[] #[]), .nilFunc, .nilFunc, .nilFunc, (.func (.func 55) #[] #[]), .nilFunc, .nilFunc, (.func (.func 56) #[] #[]), .nilFunc, .nilFunc, (.func (.func 57) #[] #[]), .nilFunc, .nilFunc, (.func (.func 58) #[] #[]), (.func (.func 59) #[] #[]), .nilFunc, (.func (.func 60) #[] #[]), (.func (.func 61) #[] #[]), .nilFunc, (.func (.func 62) #[] #[]), (.func (.func 61) #[] #[]), .nilFunc, (.func (.func 63) #[] #[]), (.func (.func 61) #[] #[]), .nilFunc, (.func (.func 64) #[] #[]), .nilFunc, .nilFunc, (.func (.func 65) #[] #[]), .nilFunc, .nilFunc, (.func (.func 66) #[] #[]), .nilFunc, .nilFunc, (.func (.func 67) #[] #[]), .nilFunc, .nilFunc, (.func (.func 69) #[] #[]), .nilFunc, .nilFunc, (.func (.func 70) #[] #[]), .nilFunc, .nilFunc, (.func (.func 71) #[] #[]), .nilFunc, .nilFunc, (.func (.func 72) #[] #[]), .nilFunc]) (.int .i64 k)).run Tryd.prog w = .ok (.agg #[.nilFunc, (.func (.func j1) #[] #[]), .nilFunc]) w) (W : World) : Calls Tryd.prog 32 #[.int .i64 k] W (Told .nilFunc (.func (.func j1) #[] #[]) .nilFunc W) := by
  go_enter Tryd.func32, Tryd.ntmps32
  go_wp2
  exact bodyPost_ret (v := .agg #[.nilFunc, (.func (.func j1) #[] #[]), .nilFunc]) (by simp [results, Tryd.results32, go_sem]) rfl ⟨rfl, rfl⟩
theorem reckoning_011 (k : Nat) (hk : k < 18) (j1 : Nat) (j2 : Nat) (hi : ∀ w : World, (Instr.index 72 (.agg #[(.func (.func 52) #[] #[]), .nilFunc, .nilFunc, (.func (.func 53) #[] #[]), .nilFunc, .nilFunc, (.func (.func 54) #[] #[]), .nilFunc, .nilFunc, .nilFunc, (.func (.func 55) #[] #[]), .nilFunc, .nilFunc, (.func (.func 56) #[] #[]), .nilFunc, .nilFunc, (.func (.func 57) #[] #[]), .nilFunc, .nilFunc, (.func (.func 58) #[] #[]), (.func (.func 59) #[] #[]), .nilFunc, (.func (.func 60) #[] #[]), (.func (.func 61) #[] #[]), .nilFunc, (.func (.func 62) #[] #[]), (.func (.func 61) #[] #[]), .nilFunc, (.func (.func 63) #[] #[]), (.func (.func 61) #[] #[]), .nilFunc, (.func (.func 64) #[] #[]), .nilFunc, .nilFunc, (.func (.func 65) #[] #[]), .nilFunc, .nilFunc, (.func (.func 66) #[] #[]), .nilFunc, .nilFunc, (.func (.func 67) #[] #[]), .nilFunc, .nilFunc, (.func (.func 69) #[] #[]), .nilFunc, .nilFunc, (.func (.func 70) #[] #[]), .nilFunc, .nilFunc, (.func (.func 71) #[] #[]), .nilFunc, .nilFunc, (.func (.func 72) #[] #[]), .nilFunc]) (.int .i64 k)).run Tryd.prog w = .ok (.agg #[.nilFunc, (.func (.func j1) #[] #[]), (.func (.func j2) #[] #[])]) w) (W : World) : Calls Tryd.prog 32 #[.int .i64 k] W (Told .nilFunc (.func (.func j1) #[] #[]) (.func (.func j2) #[] #[]) W) := by
  go_enter Tryd.func32, Tryd.ntmps32
  go_wp2
  exact bodyPost_ret (v := .agg #[.nilFunc, (.func (.func j1) #[] #[]), (.func (.func j2) #[] #[])]) (by simp [results, Tryd.results32, go_sem]) rfl ⟨rfl, rfl⟩
theorem reckoning_100 (k : Nat) (hk : k < 18) (j0 : Nat) (hi : ∀ w : World, (Instr.index 72 (.agg #[(.func (.func 52) #[] #[]), .nilFunc, .nilFunc, (.func (.func 53) #[] #[]), .nilFunc, .nilFunc, (.func (.func 54) #[] #[]), .nilFunc, .nilFunc, .nilFunc, (.func (.func 55) #[] #[]), .nilFunc, .nilFunc, (.func (.func 56) #[] #[]), .nilFunc, .nilFunc, (.func (.func 57) #[] #[]), .nilFunc, .nilFunc, (.func (.func 58) #[] #[]), (.func (.func 59) #[] #[]), .nilFunc, (.func (.func 60) #[] #[]), (.func (.func 61) #[] #[]), .nilFunc, (.func (.func 62) #[] #[]), (.func (.func 61) #[] #[]), .nilFunc, (.func (.func 63) #[] #[]), (.func (.func 61) #[] #[]), .nilFunc, (.func (.func 64) #[] #[]), .nilFunc, .nilFunc, (.func (.func 65) #[] #[]), .nilFunc, .nilFunc, (.func (.func 66) #[] #[]), .nilFunc, .nilFunc, (.func (.func 67) #[] #[]), .nilFunc, .nilFunc, (.func (.func 69) #[] #[]), .nilFunc, .nilFunc, (.func (.func 70) #[] #[]), .nilFunc, .nilFunc, (.func (.func 71) #[] #[]), .nilFunc, .nilFunc, (.func (.func 72) #[] #[]), .nilFunc]) (.int .i64 k)).run Tryd.prog w = .ok (.agg #[(.func (.func j0) #[] #[]), .nilFunc, .nilFunc]) w) (W : World) : Calls Tryd.prog 32 #[.int .i64 k] W (Told (.func (.func j0) #[] #[]) .nilFunc .nilFunc W) := by
  go_enter Tryd.func32, Tryd.ntmps32
  go_wp2
  exact bodyPost_ret (v := .agg #[(.func (.func j0) #[] #[]), .nilFunc, .nilFunc]) (by simp [results, Tryd.results32, go_sem]) rfl ⟨rfl, rfl⟩
theorem reckoning_at0 (W : World) : Calls Tryd.prog 32 #[.int .i64 0] W (Told (.func (.func 52) #[] #[]) .nilFunc .nilFunc W) := reckoning_100 0 (by decide) _ (fun _ => by kernel_rfl) W
theorem reckoning_at1 (W : World) : Calls Tryd.prog 32 #[.int .i64 1] W (Told (.func (.func 53) #[] #[]) .nilFunc .nilFunc W) := reckoning_100 1 (by decide) _ (fun _ => by kernel_rfl) W
theorem reckoning_at2 (W : World) : Calls Tryd.prog 32 #[.int .i64 2] W (Told (.func (.func 54) #[] #[]) .nilFunc .nilFunc W) := reckoning_100 2 (by decide) _ (fun _ => by kernel_rfl) W
theorem reckoning_at3 (W : World) : Calls Tryd.prog 32 #[.int .i64 3] W (Told .nilFunc (.func (.func 55) #[] #[]) .nilFunc W) := reckoning_010 3 (by decide) _ (fun _ => by kernel_rfl) W
theorem reckoning_at4 (W : World) : Calls Tryd.prog 32 #[.int .i64 4] W (Told .nilFunc (.func (.func 56) #[] #[]) .nilFunc W) := reckoning_010 4 (by decide) _ (fun _ => by kernel_rfl) W
theorem reckoning_at5 (W : World) : Calls Tryd.prog 32 #[.int .i64 5] W (Told .nilFunc (.func (.func 57) #[] #[]) .nilFunc W) := reckoning_010 5 (by decide) _ (fun _ => by kernel_rfl) W
theorem reckoning_at6 (W : World) : Calls Tryd.prog 32 #[.int .i64 6] W (Told .nilFunc (.func (.func 58) #[] #[]) (.func (.func 59) #[] #[]) W) := reckoning_011 6 (by decide) _ _ (fun _ => by kernel_rfl) W
theorem reckoning_at7 (W : World) : Calls Tryd.prog 32 #[.int .i64 7] W (Told .nilFunc (.func (.func 60) #[] #[]) (.func (.func 61) #[] #[]) W) := reckoning_011 7 (by decide) _ _ (fun _ => by kernel_rfl) W
theorem reckoning_at8 (W : World) : Calls Tryd.prog 32 #[.int .i64 8] W (Told .nilFunc (.func (.func 62) #[] #[]) (.func (.func 61) #[] #[]) W) := reckoning_011 8 (by decide) _ _ (fun _ => by kernel_rfl) W
theorem reckoning_at9 (W : World) : Calls Tryd.prog 32 #[.int .i64 9] W (Told .nilFunc (.func (.func 63) #[] #[]) (.func (.func 61) #[] #[]) W) := reckoning_011 9 (by decide) _ _ (fun _ => by kernel_rfl) W
theorem reckoning_at10 (W : World) : Calls Tryd.prog 32 #[.int .i64 10] W (Told .nilFunc (.func (.func 64) #[] #[]) .nilFunc W) := reckoning_010 10 (by decide) _ (fun _ => by kernel_rfl) W
theorem reckoning_at11 (W : World) : Calls Tryd.prog 32 #[.int .i64 11] W (Told .nilFunc (.func (.func 65) #[] #[]) .nilFunc W) := reckoning_010 11 (by decide) _ (fun _ => by kernel_rfl) W
theorem reckoning_at12 (W : World) : Calls Tryd.prog 32 #[.int .i64 12] W (Told .nilFunc (.func (.func 66) #[] #[]) .nilFunc W) := reckoning_010 12 (by decide) _ (fun _ => by kernel_rfl) W
theorem reckoning_at13 (W : World) : Calls Tryd.prog 32 #[.int .i64 13] W (Told .nilFunc (.func (.func 67) #[] #[]) .nilFunc W) := reckoning_010 13 (by decide) _ (fun _ => by kernel_rfl) W
theorem reckoning_at14 (W : World) : Calls Tryd.prog 32 #[.int .i64 14] W (Told .nilFunc (.func (.func 69) #[] #[]) .nilFunc W) := reckoning_010 14 (by decide) _ (fun _ => by kernel_rfl) W
theorem reckoning_at15 (W : World) : Calls Tryd.prog 32 #[.int .i64 15] W (Told .nilFunc (.func (.func 70) #[] #[]) .nilFunc W) := reckoning_010 15 (by decide) _ (fun _ => by kernel_rfl) W
theorem reckoning_at16 (W : World) : Calls Tryd.prog 32 #[.int .i64 16] W (Told .nilFunc (.func (.func 71) #[] #[]) .nilFunc W) := reckoning_010 16 (by decide) _ (fun _ => by kernel_rfl) W
theorem reckoning_at17 (W : World) : Calls Tryd.prog 32 #[.int .i64 17] W (Told .nilFunc (.func (.func 72) #[] #[]) .nilFunc W) := reckoning_010 17 (by decide) _ (fun _ => by kernel_rfl) W
theorem widening_100 (k : Nat) (hk : k < 2) (j0 : Nat) (hi : ∀ w : World, (Instr.index 73 (.agg #[(.func (.func 74) #[] #[]), .nilFunc, .nilFunc, (.func (.func 73) #[] #[]), .nilFunc, .nilFunc]) (.int .i64 k)).run Tryd.prog w = .ok (.agg #[(.func (.func j0) #[] #[]), .nilFunc, .nilFunc]) w) (W : World) : Calls Tryd.prog 34 #[.int .i64 k] W (Told (.func (.func j0) #[] #[]) .nilFunc .nilFunc W) := by
  go_enter Tryd.func34, Tryd.ntmps34
  go_wp2
  exact bodyPost_ret (v := .agg #[(.func (.func j0) #[] #[]), .nilFunc, .nilFunc]) (by simp [results, Tryd.results34, go_sem]) rfl ⟨rfl, rfl⟩
theorem widening_at0 (W : World) : Calls Tryd.prog 34 #[.int .i64 0] W (Told (.func (.func 74) #[] #[]) .nilFunc .nilFunc W) := widening_100 0 (by decide) _ (fun _ => by kernel_rfl) W
theorem widening_at1 (W : World) : Calls Tryd.prog 34 #[.int .i64 1] W (Told (.func (.func 73) #[] #[]) .nilFunc .nilFunc W) := widening_100 1 (by decide) _ (fun _ => by kernel_rfl) W
theorem extending_100 (k : Nat) (hk : k < 3) (j0 : Nat) (hi : ∀ w : World, (Instr.index 74 (.agg #[(.func (.func 75) #[] #[]), .nilFunc, .nilFunc, (.func (.func 76) #[] #[]), .nilFunc, .nilFunc, (.func (.func 74) #[] #[]), .nilFunc, .nilFunc]) (.int .i64 k)).run Tryd.prog w = .ok (.agg #[(.func (.func j0) #[] #[]), .nilFunc, .nilFunc]) w) (W : World) : Calls Tryd.prog 35 #[.int .i64 k] W (Told (.func (.func j0) #[] #[]) .nilFunc .nilFunc W) := by
  go_enter Tryd.func35, Tryd.ntmps35
  go_wp2
  exact bodyPost_ret (v := .agg #[(.func (.func j0) #[] #[]), .nilFunc, .nilFunc]) (by simp [results, Tryd.results35, go_sem]) rfl ⟨rfl, rfl⟩
theorem extending_at0 (W : World) : Calls Tryd.prog 35 #[.int .i64 0] W (Told (.func (.func 75) #[] #[]) .nilFunc .nilFunc W) := extending_100 0 (by decide) _ (fun _ => by kernel_rfl) W
theorem extending_at1 (W : World) : Calls Tryd.prog 35 #[.int .i64 1] W (Told (.func (.func 76) #[] #[]) .nilFunc .nilFunc W) := extending_100 1 (by decide) _ (fun _ => by kernel_rfl) W
theorem extending_at2 (W : World) : Calls Tryd.prog 35 #[.int .i64 2] W (Told (.func (.func 74) #[] #[]) .nilFunc .nilFunc W) := extending_100 2 (by decide) _ (fun _ => by kernel_rfl) W
end Go.Proofs.YtnhnbcjffnlicaaDoor
