/-
  Layer 4, code: what stands where heap types stand.
-/
import Derived.Test.YtlflmobaegfnaaaDoorKdZp
namespace Go.Proofs.YtlflmobaegfnaaaDoor
open Go.RowKit
set_option linter.unusedVariables false
set_option maxRecDepth 100000

/-- Two lists, element by element. -/
def Al {α β : Type} (R : α → β → Prop) : List α → List β → Prop
  | [], [] => True
  | a :: l, b :: m => R a b ∧ Al R l m
  | _, _ => False
section
variable {α β : Type} {R R' : α → β → Prop}
theorem Al.append : ∀ {l l' : List α} {m m' : List β}, Al R l m → Al R l' m' → Al R (l ++ l') (m ++ m')
  | [], _, [], _, _, h => h
  | _ :: _, _, _ :: _, _, h, h' => ⟨h.1, Al.append h.2 h'⟩
  | [], _, _ :: _, _, h, _ => h.elim
  | _ :: _, _, [], _, h, _ => h.elim
theorem Al.len : ∀ {l : List α} {m : List β}, Al R l m → l.length = m.length
  | [], [], _ => rfl
  | _ :: _, _ :: _, h => by simp [Al.len h.2]
  | [], _ :: _, h => h.elim
  | _ :: _, [], h => h.elim
theorem Al.mono : ∀ {l : List α} {m : List β}, (∀ x ∈ l, ∀ y, R x y → R' x y) → Al R l m → Al R' l m
  | [], [], _, _ => trivial
  | _ :: _, _ :: _, hr, h => ⟨hr _ (by simp) _ h.1, Al.mono (fun x hx => hr x (by simp [hx])) h.2⟩
  | [], _ :: _, _, h => h.elim
  | _ :: _, [], _, h => h.elim
theorem Al.same (hf : ∀ x y y', R x y → R x y' → y = y') : ∀ {l : List α} {m m' : List β}, Al R l m → Al R l m' → m = m'
  | [], [], [], _, _ => rfl
  | _ :: _, _ :: _, _ :: _, h, h' => by rw [hf _ _ _ h.1 h'.1, Al.same hf h.2 h'.2]
  | [], _ :: _, _, h, _ => h.elim
  | _ :: _, [], _, h, _ => h.elim
  | [], [], _ :: _, _, h => h.elim
  | _ :: _, _ :: _, [], _, h => h.elim
theorem Al.mem : ∀ {l : List α} {m : List β}, Al R l m → ∀ x ∈ l, ∃ y, R x y
  | [], [], _, _, hx => by cases hx
  | _ :: _, b :: _, h, x, hx => by
    rcases List.mem_cons.1 hx with rfl | hx
    · exact ⟨b, h.1⟩
    · exact Al.mem h.2 x hx
  | [], _ :: _, h, _, _ => h.elim
  | _ :: _, [], h, _, _ => h.elim
theorem Al.pre : ∀ {l l' : List α} {m : List β}, Al R l m → l' <+: l → Al R l' (m.take l'.length)
  | _, [], _, _, _ => by simp [Al]
  | a :: l, a' :: l', b :: m, h, hp => by
    obtain ⟨t, ht⟩ := hp
    injection ht with h1 h2
    subst h1
    exact ⟨h.1, Al.pre h.2 ⟨t, h2⟩⟩
  | [], a' :: l', _, _, hp => by
    obtain ⟨t, ht⟩ := hp
    simp at ht
  | _ :: _, _ :: _, [], h, _ => h.elim
theorem Al.of_get : ∀ {l : List α} {m : List β}, l.length = m.length → (∀ i (h : i < l.length) (h' : i < m.length), R l[i] m[i]) → Al R l m
  | [], [], _, _ => trivial
  | a :: l, b :: m, hl, h => ⟨h 0 (by simp) (by simp), Al.of_get (by simpa using hl) (fun i h1 h2 => h (i + 1) (by simpa using h1) (by simpa using h2))⟩
  | [], _ :: _, h, _ => by simp at h
  | _ :: _, [], h, _ => by simp at h
end

/-- A heap type's cells at an address; a value type's. -/
def HpAt (w : World) (y : Addr) (h : Hp) : Prop := y.spot = none ∧ w.cell? ⟨y.block, y.off, none⟩ = some (.int .i64 h.k) ∧ w.cell? ⟨y.block, y.off + 1, none⟩ = some (.int .i64 h.n)
def VlAt (w : World) (x : Addr) (v : Vl) : Prop := x.spot = none ∧ w.cell? ⟨x.block, x.off, none⟩ = some (.int .i64 v.k) ∧ w.cell? ⟨x.block, x.off + 2, none⟩ = some (.int .i64 v.h.k) ∧ w.cell? ⟨x.block, x.off + 2 + 1, none⟩ = some (.int .i64 v.h.n)
def kdW (w : World) (x : Addr) : Int := match w.cell? ⟨x.block, x.off, none⟩ with
  | some (.int _ k) => k
  | _ => 0
theorem VlAt.kd {w : World} {x : Addr} {v : Vl} (h : VlAt w x v) : kdW w x = v.k := by unfold kdW; rw [h.2.1]
theorem HpAt.same {w : World} (y : Addr) (h h' : Hp) (a : HpAt w y h) (b : HpAt w y h') : h = h' := by
  obtain ⟨k, n⟩ := h
  obtain ⟨k', n'⟩ := h'
  have e1 := a.2.1.symm.trans b.2.1
  have e2 := a.2.2.symm.trans b.2.2
  simp at e1 e2
  rw [e1, e2]
theorem ats_al {α : Type} {sz : Nat} {cs : α → List Value} {w : World} {C c o : Nat} {A : Option Addr} {l : List α} {R : Addr → α → Prop} (h : Seg sz cs w C A c l)
    (hR : ∀ b off j x, (∀ i v, (cs x)[i]? = some v → w.cell? ⟨b, off + j * sz + i, none⟩ = some v) → R ⟨b, off + j * sz + o, none⟩ x) : Al R (ats A sz o l.length) l := by
  refine Al.of_get (ats_len _ _ _ _) fun i h1 h2 => ?_
  obtain ⟨b, off, rfl, _, hc⟩ := h.2.2 (by omega)
  rw [ats_get]
  exact hR b off i _ (hc i h2)
theorem vals_al {w : World} {C c2 c3 c4 : Nat} {A2 A3 A4 : Option Addr} {c : Cp} (h2 : Seg 4 Vl.cs w C A2 c2 c.ps) (h3 : Seg 4 Vl.cs w C A3 c3 c.rs) (h4 : Seg 6 Fd.cs w C A4 c4 c.fs) :
    Al (VlAt w) (valsAt A2 c.ps.length A3 c.rs.length A4 c.fs.length) (Kd.allV c) := by
  unfold valsAt Kd.allV
  refine (Al.append (ats_al h2 fun b off j x hx => ?_) (ats_al h3 fun b off j x hx => ?_)).append ?_
  · exact ⟨rfl, hx 0 _ rfl, hx 2 _ rfl, hx 3 _ rfl⟩
  · exact ⟨rfl, hx 0 _ rfl, hx 2 _ rfl, hx 3 _ rfl⟩
  · have h : Al (fun x (f : Fd) => VlAt w x f.v) (ats A4 6 1 c.fs.length) c.fs := ats_al h4 fun b off j x hx => ⟨rfl, hx 1 _ rfl, hx 3 _ rfl, hx 4 _ rfl⟩
    generalize ats A4 6 1 c.fs.length = L at h
    generalize c.fs = M at h
    induction L generalizing M with
    | nil => cases M with
      | nil => exact trivial
      | cons _ _ => exact h.elim
    | cons a L ih => cases M with
      | nil => exact h.elim
      | cons b M => exact ⟨h.1, ih M h.2⟩
theorem refs_al {w : World} {kd : Addr → Int} : ∀ {xs : List Addr} {vs : List Vl}, (∀ x ∈ xs, kd x = kdW w x) → Al (VlAt w) xs vs → Al (HpAt w) ((xs.filter fun x => decide (kd x = 3)).map shiftA) (Kd.refs vs)
  | [], [], _, _ => trivial
  | x :: xs, v :: vs, hk, h => by
    have ih := refs_al (fun y hy => hk y (by simp [hy])) h.2
    have e := (hk x (by simp)).trans h.1.kd
    by_cases h3 : v.k = 3
    · rw [List.filter_cons_of_pos (by simp [e, h3]), List.map_cons]
      have e2 : Kd.refs (v :: vs) = v.h :: Kd.refs vs := by simp [Kd.refs, Kd.isRef, h3]
      rw [e2]
      exact ⟨⟨rfl, h.1.2.2.1, h.1.2.2.2⟩, ih⟩
    · rw [List.filter_cons_of_neg (by simp [e, h3])]
      have e2 : Kd.refs (v :: vs) = Kd.refs vs := by simp [Kd.refs, Kd.isRef, h3]
      rw [e2]
      exact ih
  | [], _ :: _, _, h => h.elim
  | _ :: _, [], _, h => h.elim
theorem heaps_al {w : World} {C c1 c2 c3 c4 : Nat} {A1 A2 A3 A4 : Option Addr} {s : Sb} (h1 : Seg 2 Hp.cs w C A1 c1 s.sups) (h2 : Seg 4 Vl.cs w C A2 c2 s.c.ps) (h3 : Seg 4 Vl.cs w C A3 c3 s.c.rs) (h4 : Seg 6 Fd.cs w C A4 c4 s.c.fs) :
    Al (HpAt w) (heapsAt (kdW w) A1 s.sups.length (valsAt A2 s.c.ps.length A3 s.c.rs.length A4 s.c.fs.length)) (Kd.heaps s) :=
  (ats_al h1 fun b off j x hx => ⟨rfl, hx 0 _ rfl, hx 1 _ rfl⟩).append (refs_al (fun _ _ => rfl) (vals_al h2 h3 h4))
/-- Where they stand lies in the lists' blocks. -/
theorem ats_mem {b off sz o n : Nat} {x : Addr} (h : x ∈ ats (some ⟨b, off, none⟩) sz o n) : x.block = b := by
  obtain ⟨i, _, rfl⟩ := List.mem_map.1 h
  rfl
theorem ats_block {A : Option Addr} {sz o n : Nat} {B : Nat} (hn : 0 < n → ∃ b off, A = some ⟨b, off, none⟩ ∧ B ≤ b) {x : Addr} (h : x ∈ ats A sz o n) : B ≤ x.block := by
  have h0 : 0 < n := by
    have := List.length_pos_of_mem h
    rwa [ats_len] at this
  obtain ⟨b, off, rfl, hb⟩ := hn h0
  rw [ats_mem h]
  exact hb
end Go.Proofs.YtlflmobaegfnaaaDoor
