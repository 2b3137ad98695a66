/-
  Layer 6, code: a reader's lists: list, at four types.
-/
import Derived.Test.YtphmknhlibampaaDoorTbJ
import Derived.Test.YtphmknhlibampaaDoorKitR
namespace Go.Proofs.YtphmknhlibampaaDoor
open Go.RowKit
set_option linter.unusedVariables false
set_option linter.unusedSimpArgs false
set_option maxRecDepth 100000

/-- Two lists, pairwise. -/
def All2 {α β : Type} (R : α → β → Prop) : List α → List β → Prop
  | [], [] => True
  | x :: l, y :: m => R x y ∧ All2 R l m
  | _, _ => False
theorem All2.snoc {α β : Type} {R : α → β → Prop} {x : α} {y : β} (hx : R x y) : ∀ {l : List α} {m : List β}, All2 R l m → All2 R (l ++ [x]) (m ++ [y])
  | [], [], _ => ⟨hx, trivial⟩
  | _ :: _, _ :: _, h => ⟨h.1, All2.snoc hx h.2⟩
theorem All2.imp {α β : Type} {R S : α → β → Prop} (hi : ∀ x y, R x y → S x y) : ∀ {l : List α} {m : List β}, All2 R l m → All2 S l m
  | [], [], _ => trivial
  | _ :: _, _ :: _, h => ⟨hi _ _ h.1, All2.imp hi h.2⟩
theorem All2.impMem {α β : Type} {R S : α → β → Prop} : ∀ {l : List α} {m : List β}, (∀ x y, x ∈ l → R x y → S x y) → All2 R l m → All2 S l m
  | [], [], _, _ => trivial
  | x :: l, y :: m, hi, h => ⟨hi _ _ (List.mem_cons_self) h.1, All2.impMem (fun x y hx => hi x y (List.mem_cons_of_mem _ hx)) h.2⟩
theorem All2.len {α β : Type} {R : α → β → Prop} : ∀ {l : List α} {m : List β}, All2 R l m → l.length = m.length
  | [], [], _ => rfl
  | _ :: _, _ :: _, h => by simp [All2.len h.2]
theorem All2.eq {α : Type} : ∀ {l m : List α}, All2 (fun x y => x = y) l m → l = m
  | [], [], _ => rfl
  | _ :: _, _ :: _, h => by rw [h.1, All2.eq h.2]
section
variable {α β : Type} {e ts sz b B : Nat} {cs : α → List Value} {w w' : World} {v : Value} {l : List α}
theorem OwnG.keepb (h : OwnG e sz cs B w v l) (hb : b < B) (hk : Keep (Db b) w w') : OwnG e sz cs B w' v l :=
  World.ownsRow.kept (row := some b) h ⟨hk.os, hk.tape, hk.output, hk.size, fun k hk1 hk2 => hk.block k hk1 (fun _ e => hk2 (by rw [show k = b from e]))⟩ (by
    rcases hv : v.ownBlock with _ | g
    · exact .inl rfl
    · exact .inr (fun e => by injection e with e; have := (h.lt g hv).1; omega))
theorem Tb.count_le (r : Rd) : (Tb.count r).1 ≤ r.bs.length := by
  unfold Tb.count Tb.item
  split
  · split
    · unfold Tb.countAt
      split
      · split
        · exact Nat.zero_le _
        · rename_i h1 h2; omega
      · exact Nat.zero_le _
    · exact Nat.zero_le _
  · exact Nat.zero_le _
/-- What holds at a list's rounds. -/
structure LInv (b : Nat) (A : Option Addr) (n c N : Nat) (r0 : Rd) (one : Rd → β × Rd) (Rel : World → α → β → Prop) (Uses : α → Nat → Prop) (e sz : Nat) (cs : α → List Value) (w wr : World) (A' : Option Addr) (j c' : Nat) (xs : List α) (zs : List β) (r1 : Rd) : Prop where
  own : OwnG e sz cs w.heap.size wr (.slice A' j c') xs
  rel : All2 (Rel wr) xs zs
  rd : RdAt wr b A n c r1
  keep : Keep (Db b) w wr
  many : Tb.many one N [] r0 = Tb.many one (N - j) zs r1
  sep : ∀ x ∈ xs, ∀ g, Uses x g → w.heap.size ≤ g ∧ g < wr.heap.size ∧ (Value.slice A' j c').ownBlock ≠ some g
theorem LInv.len {A A' : Option Addr} {n c N j c' : Nat} {r0 r1 : Rd} {one : Rd → β × Rd} {Rel : World → α → β → Prop} {Uses : α → Nat → Prop} {wr : World} {xs : List α} {zs : List β} (h : LInv b A n c N r0 one Rel Uses e sz cs w wr A' j c' xs zs r1) : xs.length = j := by
  obtain ⟨A1, c1, e1⟩ := h.own.form
  injection e1 with _ e2 _
  exact e2.symm
theorem RdAt.grown {A : Option Addr} {n c : Nat} {r r1 : Rd} {w0 wr w' : World} {B : Nat} (h : RdAt wr b A n c r) (hown : OwnG e sz cs B wr v l) (hg : wr.grownBy w' v.ownBlock) (hb : b < B) (hB : B ≤ wr.heap.size) (h0 : RdAt w0 b A n c r1) (hw0 : w0.heap.size ≤ B) : RdAt w' b A n c r := by
  refine ⟨(hg.block b h.lt (fun e => ?_)).trans h.1, ?_, h.2.2⟩
  · have := (hown.lt b e.symm).1; omega
  · obtain ⟨q1, q2, q3, q4, q5⟩ := h.2.1
    refine ⟨q1, q2, q3, q4, fun hn => ?_⟩
    obtain ⟨b', off, e, hb', hc⟩ := q5 hn
    obtain ⟨b2, o2, e2, hb2, -⟩ := h0.2.1.2.2.2.2 hn
    rw [e] at e2
    injection e2 with e2
    injection e2 with e2 e3
    subst e2 e3
    have hblk := hg.block b' hb' (fun e => by have := (hown.lt b' e.symm).1; omega)
    exact ⟨b', off, e, Nat.lt_of_lt_of_le hb' hg.size, fun j hj => (World.cell?_of_block (w := wr) (a := ⟨b', off + j, none⟩) hblk).trans (hc j hj)⟩
theorem keep_grown {wr w' : World} {B : Nat} (hown : OwnG e sz cs B wr v l) (hg : wr.grownBy w' v.ownBlock) (hB : B ≤ wr.heap.size) : Below B wr w' := hown.grown hg (Nat.le_refl _) hB (Below.refl _ _)
end
/-- A slice, and a declared type's six cells. -/
structure Sl where
  a : Option Addr
  n : Nat
  c : Nat
structure Sr where
  fin : Bool
  x1 : Sl
  k : Int
  x2 : Sl
  x3 : Sl
  x4 : Sl
def Sr.cs (x : Sr) : List Value := [.bool x.fin, .slice x.x1.a x.x1.n x.x1.c, .int .i64 x.k, .slice x.x2.a x.x2.n x.x2.c, .slice x.x3.a x.x3.n x.x3.c, .slice x.x4.a x.x4.n x.x4.c]
theorem elemSub : Elem (α := Sr) 70 52 6 Sr.cs where
  info := by
    obtain ⟨i0, hi0, hz0, hz1, hz2⟩ := info_parts (show (Tryd.prog.info? 70).map (fun i => (i.zero, i.size, i.bytes)) = some (some (.agg #[.bool false, .slice none 0 0, .int .i64 0, .slice none 0 0, .slice none 0 0, .slice none 0 0]), 6, 112) by kernel_rfl)
    exact ⟨i0, _, hi0, hz0, hz1, rfl, by omega⟩
  under := Tryd.underlying52
  len _ := rfl
  pos := by decide
  one x u hu := by simp [Sr.cs] at hu; rcases hu with rfl | rfl | rfl | rfl | rfl | rfl <;> rfl
set_option maxHeartbeats 8000000 in
theorem listH_any {β : Type} {w : World} {b n c : Nat} {A : Option Addr} {r : Rd} (h : RdAt w b A n c r) (hn : n < 1000000) (one : Rd → β × Rd) (Rel : World → Hp → β → Prop) (Uses : Hp → Nat → Prop) (fid : Nat) (he : ∀ args w, (callFunc fid args).run Tryd.prog w = .ok (.enter fid args) w)
    (hRk : ∀ W W' x z, Rel W x z → W.heap.size ≤ W'.heap.size → (∀ g, Uses x g → W'.heap[g]? = W.heap[g]?) → Rel W' x z)
    (hone : ∀ (y : World) (r' : Rd), RdAt y b A n c r' → Keep (Db b) w y → Calls Tryd.prog fid #[.pointer (some ⟨b, 0, none⟩)] y fun e y' => ∃ x : Hp, e = .returned (.agg #[.int .i64 x.k, .int .i64 x.n]) ∧ Rel y' x (one r').1 ∧ (∀ g, Uses x g → y.heap.size ≤ g ∧ g < y'.heap.size) ∧ RdAt y' b A n c (one r').2 ∧ Keep (Db b) y y') :
    Calls Tryd.prog 85 #[.pointer (some ⟨b, 0, none⟩), .func (.func fid) #[.pointer (some ⟨b, 0, none⟩)] #[]] w fun e w' => ∃ v xs, e = .returned v ∧ OwnG 42 2 Hp.cs w.heap.size w' v xs ∧ All2 (Rel w') xs (Tb.list one r).1 ∧ (∀ x ∈ xs, ∀ g, Uses x g → w.heap.size ≤ g ∧ g < w'.heap.size ∧ v.ownBlock ≠ some g) ∧ RdAt w' b A n c (Tb.list one r).2 ∧ Keep (Db b) w w' := by
  obtain ⟨Q, hQ⟩ : ∃ Q : Ending → World → Prop, Q = (fun e w' => ∃ v xs, e = .returned v ∧ OwnG 42 2 Hp.cs w.heap.size w' v xs ∧ All2 (Rel w') xs (Tb.list one r).1 ∧ (∀ x ∈ xs, ∀ g, Uses x g → w.heap.size ≤ g ∧ g < w'.heap.size ∧ v.ownBlock ≠ some g) ∧ RdAt w' b A n c (Tb.list one r).2 ∧ Keep (Db b) w w') := ⟨_, rfl⟩
  rw [← hQ]
  have HC := Lib.hid (Count_rd h)
  have HN := Lib.hid (show (Tb.count r).1 < 1000000 by have := Tb.count_le r; rw [h.len] at this; omega)
  have HQ := Lib.hid hQ
  have HRk := Lib.hid hRk
  have HO := Lib.hid hone
  have Hlt := Lib.hid h.lt
  have HH := Lib.hid h
  obtain ⟨q, hq⟩ : ∃ q, Tb.count r = q := ⟨_, rfl⟩
  have hlist : Tb.list one r = Tb.many one q.1 [] q.2 := by unfold Tb.list; rw [hq]
  rw [hq] at HC HN
  have HL := Lib.hid hlist
  obtain ⟨N, hN⟩ : ∃ N, q.1 = N := ⟨_, rfl⟩
  rw [hN] at HC HN HL
  have hN2 : N < 1000000 := HN.out
  clear h hQ hRk hone hq hlist hN
  go_enter Tryd.func85, Tryd.ntmps85
  go_wp2_with (go_at_call 18; refine HC.out.mono ?_; rintro e w0 ⟨rfl, h1, h2⟩; have HR0 := Lib.hid h1; have HK0 := Lib.hid h2; clear h1 h2)
  go_loopw [5, 9] (fun out i wr => ∃ (j : Nat) (A' : Option Addr) (c' : Nat) (xs : List Hp) (zs : List β) (r1 : Rd), j ≤ N ∧ i = .int .i64 (j : Int) ∧ out = .slice A' j c' ∧ LInv b A n c N q.2 one Rel Uses 42 2 Hp.cs w wr A' j c' xs zs r1) (fun _ i _ => N - (intOf i).toNat)
  case atStart => exact ⟨0, none, 0, [], [], q.2, Nat.zero_le _, rfl, rfl, ⟨OwnG.nil _ _, trivial, HR0.out, HK0.out, rfl, fun x hx => by cases hx⟩⟩
  case round =>
    obtain ⟨j, A', c', xs, zs, r1, hj, rfl, rfl, hinv⟩ := hrel
    have HI := Lib.hid hinv
    clear hinv
    by_cases hlt : j < N
    · have HC1 := Lib.hid (HO.out wr r1 HI.out.rd HI.out.keep)
      obtain ⟨p, hp⟩ : ∃ p, one r1 = p := ⟨_, rfl⟩
      rw [hp] at HC1
      have HP := Lib.hid hp
      clear hp
      by_cases hp0 : p.2.e = 0
      · have HG : Hid (∀ y, RdAt y b A n c p.2 → Calls Tryd.prog 69 #[.pointer (some ⟨b, 0, none⟩)] y fun e w' => e = .returned (.bool true) ∧ y = w') := Lib.hid fun y hy => goes_any hy true (by simp [hp0])
        have HP0 := Lib.hid hp0
        clear hp0
        go_wp2_with (first
          | (go_at_call 69; refine (HG.out _ HR2.out).mono ?_; rintro e w3 ⟨rfl, rfl⟩)
          | (refine HC1.out.mono ?_; rintro e w1 ⟨x, rfl, hx, hu, h1, h2⟩; have HX := Lib.hid hx; have HU := Lib.hid hu; have HK1 := Lib.hid h2; have HA2 : Hid (Below w1.heap.size w1 (w1.alloc (.cells #[.int .i64 x.k, .int .i64 x.n] 42))) := Lib.hid ((Below.refl _ _).alloc (Nat.le_refl _) _); have HR2 := Lib.hid (h1.below (Nat.le_refl _) HA2.out); have HB2 : Hid ((w1.alloc (.cells #[.int .i64 x.k, .int .i64 x.n] 42)).heap[w1.heap.size]? = some (.cells #[.int .i64 x.k, .int .i64 x.n] 42 (0, 0))) := Lib.hid (World.alloc_heap_new _ _); have HOW := Lib.hid ((HI.out.own.keepb Hlt.out h2).alloc (.cells #[.int .i64 x.k, .int .i64 x.n] 42)); have HZ2 : Hid (w.heap.size ≤ (w1.alloc (.cells #[.int .i64 x.k, .int .i64 x.n] 42)).heap.size) := Lib.hid (by have := HI.out.keep.size; have := h2.size; simp; omega); clear hx hu h1 h2)
          | (refine wpList_load_row rfl 42 (.tmp 6) rfl w1.heap.size rfl _ _ _ _ HB2.out Tryd.underlying42 rfl (by kernel_rfl) ?_)
          | (at_builtin; refine push_at elemH rfl (.tmp 16) (.tmp 18) rfl (w1.alloc (.cells #[.int .i64 x.k, .int .i64 x.n] 42)) (w1.heap.size + 1) (by simp) x #[.int .i64 x.k, .int .i64 x.n] _ rfl rfl HOW.out HZ2.out (j + 1) (by omega) (by rw [HI.out.len]) rfl ?_; intro A9 c9 w9 hown9 hg9 hr9; have HO9 := Lib.hid hown9; have HR9 := Lib.hid hr9; have HG9 := Lib.hid hg9; clear hown9 hg9 hr9))
        go_roundw
        case rel =>
          have B9 := keep_grown HOW.out HG9.out HZ2.out
          have hz1 := HI.out.keep.size
          have hz2 := HK1.out.size
          have hz9 := HG9.out.size
          simp only [World.size_alloc] at hz9
          have hlt2 : ∀ g, (Value.slice A' j c').ownBlock = some g → g < wr.heap.size := fun g hg => (HI.out.own.lt g hg).2
          have stay : ∀ g, g < w1.heap.size → (Value.slice A' j c').ownBlock ≠ some g → w9.heap[g]? = w1.heap[g]? := fun g hg hne => by
            rw [HG9.out.block g (by simp; omega) (fun e => hne e.symm)]
            exact Below.heap_alloc _ _ _ hg
          refine ⟨j + 1, A9, c9, xs ++ [x], zs ++ [p.1], p.2, by omega, by go_num, rfl, ⟨HO9.out, ?_, ?_, ?_, ?_, ?_⟩⟩
          · refine All2.snoc (HRk.out _ _ _ _ HX.out (by omega) fun g hg => ?_) ?_
            · have h1 := HU.out g hg
              exact stay g h1.2 (fun e => by have := hlt2 g e; omega)
            · have hs := HI.out.sep
              have hrel := HI.out.rel
              exact All2.impMem (fun x' z' hm hR => by
                refine HRk.out _ _ _ _ hR (by omega) fun g hg => ?_
                obtain ⟨g1, g2, g3⟩ := hs x' hm g hg
                rw [stay g (by omega) g3]
                exact HK1.out.block g g2 (fun _ e => by have : g = b := e; have := Hlt.out; omega)) hrel
          · exact HR2.out.grown HOW.out HG9.out Hlt.out HZ2.out HH.out (Nat.le_refl _)
          · exact (HI.out.keep.trans (HK1.out.trans (Keep.of_below HA2.out))).lies (Nat.le_refl _) B9
          · rw [HI.out.many]
            have e : N - j = (N - (j + 1)) + 1 := by omega
            rw [e]
            show (if (one r1).2.e = 0 then Tb.many one (N - (j + 1)) (zs ++ [(one r1).1]) (one r1).2 else ([], (one r1).2)) = _
            rw [HP.out, if_pos HP0.out]
          · intro x' hm g hg
            have hnew : ∀ g, g < w1.heap.size → (Value.slice A' j c').ownBlock ≠ some g → (Value.slice A9 (j + 1) c9).ownBlock ≠ some g := fun g h1 h2 e => by
              rcases HR9.out g e with h | h
              · exact h2 h
              · simp only [World.size_alloc] at h; omega
            rcases List.mem_append.1 hm with hm | hm
            · obtain ⟨g1, g2, g3⟩ := HI.out.sep x' hm g hg
              exact ⟨g1, by omega, hnew g (by omega) g3⟩
            · obtain rfl := List.mem_singleton.1 hm
              obtain ⟨g1, g2⟩ := HU.out g hg
              exact ⟨by omega, by omega, hnew g g2 (fun e => by have := hlt2 g e; omega)⟩
        case measure => simp [intOf]; omega
      · have HG : Hid (∀ y, RdAt y b A n c p.2 → Calls Tryd.prog 69 #[.pointer (some ⟨b, 0, none⟩)] y fun e w' => e = .returned (.bool false) ∧ y = w') := Lib.hid fun y hy => goes_any hy false (by simp [hp0])
        have HP0 := Lib.hid hp0
        clear hp0
        go_wp2_with (first
          | (go_at_call 69; refine (HG.out _ HR2.out).mono ?_; rintro e w3 ⟨rfl, rfl⟩)
          | (refine HC1.out.mono ?_; rintro e w1 ⟨x, rfl, hx, hu, h1, h2⟩; have HK1 := Lib.hid h2; have HA2 : Hid (Below w1.heap.size w1 (w1.alloc (.cells #[.int .i64 x.k, .int .i64 x.n] 42))) := Lib.hid ((Below.refl _ _).alloc (Nat.le_refl _) _); have HR2 := Lib.hid (h1.below (Nat.le_refl _) HA2.out); clear hx hu h1 h2))
        rw [HQ.out]
        have hm : Tb.list one r = ([], p.2) := by
          rw [HL.out, HI.out.many]
          have e : N - j = (N - (j + 1)) + 1 := by omega
          rw [e]
          show (if (one r1).2.e = 0 then Tb.many one (N - (j + 1)) (zs ++ [(one r1).1]) (one r1).2 else ([], (one r1).2)) = _
          rw [HP.out, if_neg HP0.out]
        rw [hm]
        exact ⟨_, [], rfl, OwnG.nil _ _, trivial, (fun x hx => by cases hx), HR2.out, HI.out.keep.trans (HK1.out.trans (Keep.of_below HA2.out))⟩
    · have hjN : j = N := by omega
      go_wp2
      rw [HQ.out]
      have hm : Tb.list one r = (zs, r1) := by
        rw [HL.out, HI.out.many, hjN, Nat.sub_self]
        rfl
      rw [hm]
      exact ⟨_, xs, rfl, HI.out.own, HI.out.rel, HI.out.sep, HI.out.rd, HI.out.keep⟩
set_option maxHeartbeats 8000000 in
theorem listV_any {β : Type} {w : World} {b n c : Nat} {A : Option Addr} {r : Rd} (h : RdAt w b A n c r) (hn : n < 1000000) (one : Rd → β × Rd) (Rel : World → Vl → β → Prop) (Uses : Vl → Nat → Prop) (fid : Nat) (he : ∀ args w, (callFunc fid args).run Tryd.prog w = .ok (.enter fid args) w)
    (hRk : ∀ W W' x z, Rel W x z → W.heap.size ≤ W'.heap.size → (∀ g, Uses x g → W'.heap[g]? = W.heap[g]?) → Rel W' x z)
    (hone : ∀ (y : World) (r' : Rd), RdAt y b A n c r' → Keep (Db b) w y → Calls Tryd.prog fid #[.pointer (some ⟨b, 0, none⟩)] y fun e y' => ∃ x : Vl, e = .returned (.agg #[.int .i64 x.k, .bool x.nu, .int .i64 x.h.k, .int .i64 x.h.n]) ∧ Rel y' x (one r').1 ∧ (∀ g, Uses x g → y.heap.size ≤ g ∧ g < y'.heap.size) ∧ RdAt y' b A n c (one r').2 ∧ Keep (Db b) y y') :
    Calls Tryd.prog 65 #[.pointer (some ⟨b, 0, none⟩), .func (.func fid) #[.pointer (some ⟨b, 0, none⟩)] #[]] w fun e w' => ∃ v xs, e = .returned v ∧ OwnG 46 4 Vl.cs w.heap.size w' v xs ∧ All2 (Rel w') xs (Tb.list one r).1 ∧ (∀ x ∈ xs, ∀ g, Uses x g → w.heap.size ≤ g ∧ g < w'.heap.size ∧ v.ownBlock ≠ some g) ∧ RdAt w' b A n c (Tb.list one r).2 ∧ Keep (Db b) w w' := by
  obtain ⟨Q, hQ⟩ : ∃ Q : Ending → World → Prop, Q = (fun e w' => ∃ v xs, e = .returned v ∧ OwnG 46 4 Vl.cs w.heap.size w' v xs ∧ All2 (Rel w') xs (Tb.list one r).1 ∧ (∀ x ∈ xs, ∀ g, Uses x g → w.heap.size ≤ g ∧ g < w'.heap.size ∧ v.ownBlock ≠ some g) ∧ RdAt w' b A n c (Tb.list one r).2 ∧ Keep (Db b) w w') := ⟨_, rfl⟩
  rw [← hQ]
  have HC := Lib.hid (Count_rd h)
  have HN := Lib.hid (show (Tb.count r).1 < 1000000 by have := Tb.count_le r; rw [h.len] at this; omega)
  have HQ := Lib.hid hQ
  have HRk := Lib.hid hRk
  have HO := Lib.hid hone
  have Hlt := Lib.hid h.lt
  have HH := Lib.hid h
  obtain ⟨q, hq⟩ : ∃ q, Tb.count r = q := ⟨_, rfl⟩
  have hlist : Tb.list one r = Tb.many one q.1 [] q.2 := by unfold Tb.list; rw [hq]
  rw [hq] at HC HN
  have HL := Lib.hid hlist
  obtain ⟨N, hN⟩ : ∃ N, q.1 = N := ⟨_, rfl⟩
  rw [hN] at HC HN HL
  have hN2 : N < 1000000 := HN.out
  clear h hQ hRk hone hq hlist hN
  go_enter Tryd.func65, Tryd.ntmps65
  go_wp2_with (go_at_call 18; refine HC.out.mono ?_; rintro e w0 ⟨rfl, h1, h2⟩; have HR0 := Lib.hid h1; have HK0 := Lib.hid h2; clear h1 h2)
  go_loopw [5, 9] (fun out i wr => ∃ (j : Nat) (A' : Option Addr) (c' : Nat) (xs : List Vl) (zs : List β) (r1 : Rd), j ≤ N ∧ i = .int .i64 (j : Int) ∧ out = .slice A' j c' ∧ LInv b A n c N q.2 one Rel Uses 46 4 Vl.cs w wr A' j c' xs zs r1) (fun _ i _ => N - (intOf i).toNat)
  case atStart => exact ⟨0, none, 0, [], [], q.2, Nat.zero_le _, rfl, rfl, ⟨OwnG.nil _ _, trivial, HR0.out, HK0.out, rfl, fun x hx => by cases hx⟩⟩
  case round =>
    obtain ⟨j, A', c', xs, zs, r1, hj, rfl, rfl, hinv⟩ := hrel
    have HI := Lib.hid hinv
    clear hinv
    by_cases hlt : j < N
    · have HC1 := Lib.hid (HO.out wr r1 HI.out.rd HI.out.keep)
      obtain ⟨p, hp⟩ : ∃ p, one r1 = p := ⟨_, rfl⟩
      rw [hp] at HC1
      have HP := Lib.hid hp
      clear hp
      by_cases hp0 : p.2.e = 0
      · have HG : Hid (∀ y, RdAt y b A n c p.2 → Calls Tryd.prog 69 #[.pointer (some ⟨b, 0, none⟩)] y fun e w' => e = .returned (.bool true) ∧ y = w') := Lib.hid fun y hy => goes_any hy true (by simp [hp0])
        have HP0 := Lib.hid hp0
        clear hp0
        go_wp2_with (first
          | (go_at_call 69; refine (HG.out _ HR2.out).mono ?_; rintro e w3 ⟨rfl, rfl⟩)
          | (refine HC1.out.mono ?_; rintro e w1 ⟨x, rfl, hx, hu, h1, h2⟩; have HX := Lib.hid hx; have HU := Lib.hid hu; have HK1 := Lib.hid h2; have HA2 : Hid (Below w1.heap.size w1 (w1.alloc (.cells #[.int .i64 x.k, .bool x.nu, .int .i64 x.h.k, .int .i64 x.h.n] 46))) := Lib.hid ((Below.refl _ _).alloc (Nat.le_refl _) _); have HR2 := Lib.hid (h1.below (Nat.le_refl _) HA2.out); have HB2 : Hid ((w1.alloc (.cells #[.int .i64 x.k, .bool x.nu, .int .i64 x.h.k, .int .i64 x.h.n] 46)).heap[w1.heap.size]? = some (.cells #[.int .i64 x.k, .bool x.nu, .int .i64 x.h.k, .int .i64 x.h.n] 46 (0, 0))) := Lib.hid (World.alloc_heap_new _ _); have HOW := Lib.hid ((HI.out.own.keepb Hlt.out h2).alloc (.cells #[.int .i64 x.k, .bool x.nu, .int .i64 x.h.k, .int .i64 x.h.n] 46)); have HZ2 : Hid (w.heap.size ≤ (w1.alloc (.cells #[.int .i64 x.k, .bool x.nu, .int .i64 x.h.k, .int .i64 x.h.n] 46)).heap.size) := Lib.hid (by have := HI.out.keep.size; have := h2.size; simp; omega); clear hx hu h1 h2)
          | (refine wpList_load_row rfl 46 (.tmp 6) rfl w1.heap.size rfl _ _ _ _ HB2.out Tryd.underlying46 rfl (by kernel_rfl) ?_)
          | (at_builtin; refine push_at elemV rfl (.tmp 16) (.tmp 18) rfl (w1.alloc (.cells #[.int .i64 x.k, .bool x.nu, .int .i64 x.h.k, .int .i64 x.h.n] 46)) (w1.heap.size + 1) (by simp) x #[.int .i64 x.k, .bool x.nu, .int .i64 x.h.k, .int .i64 x.h.n] _ rfl rfl HOW.out HZ2.out (j + 1) (by omega) (by rw [HI.out.len]) rfl ?_; intro A9 c9 w9 hown9 hg9 hr9; have HO9 := Lib.hid hown9; have HR9 := Lib.hid hr9; have HG9 := Lib.hid hg9; clear hown9 hg9 hr9))
        go_roundw
        case rel =>
          have B9 := keep_grown HOW.out HG9.out HZ2.out
          have hz1 := HI.out.keep.size
          have hz2 := HK1.out.size
          have hz9 := HG9.out.size
          simp only [World.size_alloc] at hz9
          have hlt2 : ∀ g, (Value.slice A' j c').ownBlock = some g → g < wr.heap.size := fun g hg => (HI.out.own.lt g hg).2
          have stay : ∀ g, g < w1.heap.size → (Value.slice A' j c').ownBlock ≠ some g → w9.heap[g]? = w1.heap[g]? := fun g hg hne => by
            rw [HG9.out.block g (by simp; omega) (fun e => hne e.symm)]
            exact Below.heap_alloc _ _ _ hg
          refine ⟨j + 1, A9, c9, xs ++ [x], zs ++ [p.1], p.2, by omega, by go_num, rfl, ⟨HO9.out, ?_, ?_, ?_, ?_, ?_⟩⟩
          · refine All2.snoc (HRk.out _ _ _ _ HX.out (by omega) fun g hg => ?_) ?_
            · have h1 := HU.out g hg
              exact stay g h1.2 (fun e => by have := hlt2 g e; omega)
            · have hs := HI.out.sep
              have hrel := HI.out.rel
              exact All2.impMem (fun x' z' hm hR => by
                refine HRk.out _ _ _ _ hR (by omega) fun g hg => ?_
                obtain ⟨g1, g2, g3⟩ := hs x' hm g hg
                rw [stay g (by omega) g3]
                exact HK1.out.block g g2 (fun _ e => by have : g = b := e; have := Hlt.out; omega)) hrel
          · exact HR2.out.grown HOW.out HG9.out Hlt.out HZ2.out HH.out (Nat.le_refl _)
          · exact (HI.out.keep.trans (HK1.out.trans (Keep.of_below HA2.out))).lies (Nat.le_refl _) B9
          · rw [HI.out.many]
            have e : N - j = (N - (j + 1)) + 1 := by omega
            rw [e]
            show (if (one r1).2.e = 0 then Tb.many one (N - (j + 1)) (zs ++ [(one r1).1]) (one r1).2 else ([], (one r1).2)) = _
            rw [HP.out, if_pos HP0.out]
          · intro x' hm g hg
            have hnew : ∀ g, g < w1.heap.size → (Value.slice A' j c').ownBlock ≠ some g → (Value.slice A9 (j + 1) c9).ownBlock ≠ some g := fun g h1 h2 e => by
              rcases HR9.out g e with h | h
              · exact h2 h
              · simp only [World.size_alloc] at h; omega
            rcases List.mem_append.1 hm with hm | hm
            · obtain ⟨g1, g2, g3⟩ := HI.out.sep x' hm g hg
              exact ⟨g1, by omega, hnew g (by omega) g3⟩
            · obtain rfl := List.mem_singleton.1 hm
              obtain ⟨g1, g2⟩ := HU.out g hg
              exact ⟨by omega, by omega, hnew g g2 (fun e => by have := hlt2 g e; omega)⟩
        case measure => simp [intOf]; omega
      · have HG : Hid (∀ y, RdAt y b A n c p.2 → Calls Tryd.prog 69 #[.pointer (some ⟨b, 0, none⟩)] y fun e w' => e = .returned (.bool false) ∧ y = w') := Lib.hid fun y hy => goes_any hy false (by simp [hp0])
        have HP0 := Lib.hid hp0
        clear hp0
        go_wp2_with (first
          | (go_at_call 69; refine (HG.out _ HR2.out).mono ?_; rintro e w3 ⟨rfl, rfl⟩)
          | (refine HC1.out.mono ?_; rintro e w1 ⟨x, rfl, hx, hu, h1, h2⟩; have HK1 := Lib.hid h2; have HA2 : Hid (Below w1.heap.size w1 (w1.alloc (.cells #[.int .i64 x.k, .bool x.nu, .int .i64 x.h.k, .int .i64 x.h.n] 46))) := Lib.hid ((Below.refl _ _).alloc (Nat.le_refl _) _); have HR2 := Lib.hid (h1.below (Nat.le_refl _) HA2.out); clear hx hu h1 h2))
        rw [HQ.out]
        have hm : Tb.list one r = ([], p.2) := by
          rw [HL.out, HI.out.many]
          have e : N - j = (N - (j + 1)) + 1 := by omega
          rw [e]
          show (if (one r1).2.e = 0 then Tb.many one (N - (j + 1)) (zs ++ [(one r1).1]) (one r1).2 else ([], (one r1).2)) = _
          rw [HP.out, if_neg HP0.out]
        rw [hm]
        exact ⟨_, [], rfl, OwnG.nil _ _, trivial, (fun x hx => by cases hx), HR2.out, HI.out.keep.trans (HK1.out.trans (Keep.of_below HA2.out))⟩
    · have hjN : j = N := by omega
      go_wp2
      rw [HQ.out]
      have hm : Tb.list one r = (zs, r1) := by
        rw [HL.out, HI.out.many, hjN, Nat.sub_self]
        rfl
      rw [hm]
      exact ⟨_, xs, rfl, HI.out.own, HI.out.rel, HI.out.sep, HI.out.rd, HI.out.keep⟩
set_option maxHeartbeats 8000000 in
theorem listF_any {β : Type} {w : World} {b n c : Nat} {A : Option Addr} {r : Rd} (h : RdAt w b A n c r) (hn : n < 1000000) (one : Rd → β × Rd) (Rel : World → Fd → β → Prop) (Uses : Fd → Nat → Prop) (fid : Nat) (he : ∀ args w, (callFunc fid args).run Tryd.prog w = .ok (.enter fid args) w)
    (hRk : ∀ W W' x z, Rel W x z → W.heap.size ≤ W'.heap.size → (∀ g, Uses x g → W'.heap[g]? = W.heap[g]?) → Rel W' x z)
    (hone : ∀ (y : World) (r' : Rd), RdAt y b A n c r' → Keep (Db b) w y → Calls Tryd.prog fid #[.pointer (some ⟨b, 0, none⟩)] y fun e y' => ∃ x : Fd, e = .returned (.agg #[.int .i64 x.pk, .int .i64 x.v.k, .bool x.v.nu, .int .i64 x.v.h.k, .int .i64 x.v.h.n, .bool x.mu]) ∧ Rel y' x (one r').1 ∧ (∀ g, Uses x g → y.heap.size ≤ g ∧ g < y'.heap.size) ∧ RdAt y' b A n c (one r').2 ∧ Keep (Db b) y y') :
    Calls Tryd.prog 107 #[.pointer (some ⟨b, 0, none⟩), .func (.func fid) #[.pointer (some ⟨b, 0, none⟩)] #[]] w fun e w' => ∃ v xs, e = .returned v ∧ OwnG 126 6 Fd.cs w.heap.size w' v xs ∧ All2 (Rel w') xs (Tb.list one r).1 ∧ (∀ x ∈ xs, ∀ g, Uses x g → w.heap.size ≤ g ∧ g < w'.heap.size ∧ v.ownBlock ≠ some g) ∧ RdAt w' b A n c (Tb.list one r).2 ∧ Keep (Db b) w w' := by
  obtain ⟨Q, hQ⟩ : ∃ Q : Ending → World → Prop, Q = (fun e w' => ∃ v xs, e = .returned v ∧ OwnG 126 6 Fd.cs w.heap.size w' v xs ∧ All2 (Rel w') xs (Tb.list one r).1 ∧ (∀ x ∈ xs, ∀ g, Uses x g → w.heap.size ≤ g ∧ g < w'.heap.size ∧ v.ownBlock ≠ some g) ∧ RdAt w' b A n c (Tb.list one r).2 ∧ Keep (Db b) w w') := ⟨_, rfl⟩
  rw [← hQ]
  have HC := Lib.hid (Count_rd h)
  have HN := Lib.hid (show (Tb.count r).1 < 1000000 by have := Tb.count_le r; rw [h.len] at this; omega)
  have HQ := Lib.hid hQ
  have HRk := Lib.hid hRk
  have HO := Lib.hid hone
  have Hlt := Lib.hid h.lt
  have HH := Lib.hid h
  obtain ⟨q, hq⟩ : ∃ q, Tb.count r = q := ⟨_, rfl⟩
  have hlist : Tb.list one r = Tb.many one q.1 [] q.2 := by unfold Tb.list; rw [hq]
  rw [hq] at HC HN
  have HL := Lib.hid hlist
  obtain ⟨N, hN⟩ : ∃ N, q.1 = N := ⟨_, rfl⟩
  rw [hN] at HC HN HL
  have hN2 : N < 1000000 := HN.out
  clear h hQ hRk hone hq hlist hN
  go_enter Tryd.func107, Tryd.ntmps107
  go_wp2_with (go_at_call 18; refine HC.out.mono ?_; rintro e w0 ⟨rfl, h1, h2⟩; have HR0 := Lib.hid h1; have HK0 := Lib.hid h2; clear h1 h2)
  go_loopw [5, 9] (fun out i wr => ∃ (j : Nat) (A' : Option Addr) (c' : Nat) (xs : List Fd) (zs : List β) (r1 : Rd), j ≤ N ∧ i = .int .i64 (j : Int) ∧ out = .slice A' j c' ∧ LInv b A n c N q.2 one Rel Uses 126 6 Fd.cs w wr A' j c' xs zs r1) (fun _ i _ => N - (intOf i).toNat)
  case atStart => exact ⟨0, none, 0, [], [], q.2, Nat.zero_le _, rfl, rfl, ⟨OwnG.nil _ _, trivial, HR0.out, HK0.out, rfl, fun x hx => by cases hx⟩⟩
  case round =>
    obtain ⟨j, A', c', xs, zs, r1, hj, rfl, rfl, hinv⟩ := hrel
    have HI := Lib.hid hinv
    clear hinv
    by_cases hlt : j < N
    · have HC1 := Lib.hid (HO.out wr r1 HI.out.rd HI.out.keep)
      obtain ⟨p, hp⟩ : ∃ p, one r1 = p := ⟨_, rfl⟩
      rw [hp] at HC1
      have HP := Lib.hid hp
      clear hp
      by_cases hp0 : p.2.e = 0
      · have HG : Hid (∀ y, RdAt y b A n c p.2 → Calls Tryd.prog 69 #[.pointer (some ⟨b, 0, none⟩)] y fun e w' => e = .returned (.bool true) ∧ y = w') := Lib.hid fun y hy => goes_any hy true (by simp [hp0])
        have HP0 := Lib.hid hp0
        clear hp0
        go_wp2_with (first
          | (go_at_call 69; refine (HG.out _ HR2.out).mono ?_; rintro e w3 ⟨rfl, rfl⟩)
          | (refine HC1.out.mono ?_; rintro e w1 ⟨x, rfl, hx, hu, h1, h2⟩; have HX := Lib.hid hx; have HU := Lib.hid hu; have HK1 := Lib.hid h2; have HA2 : Hid (Below w1.heap.size w1 (w1.alloc (.cells #[.int .i64 x.pk, .int .i64 x.v.k, .bool x.v.nu, .int .i64 x.v.h.k, .int .i64 x.v.h.n, .bool x.mu] 126))) := Lib.hid ((Below.refl _ _).alloc (Nat.le_refl _) _); have HR2 := Lib.hid (h1.below (Nat.le_refl _) HA2.out); have HB2 : Hid ((w1.alloc (.cells #[.int .i64 x.pk, .int .i64 x.v.k, .bool x.v.nu, .int .i64 x.v.h.k, .int .i64 x.v.h.n, .bool x.mu] 126)).heap[w1.heap.size]? = some (.cells #[.int .i64 x.pk, .int .i64 x.v.k, .bool x.v.nu, .int .i64 x.v.h.k, .int .i64 x.v.h.n, .bool x.mu] 126 (0, 0))) := Lib.hid (World.alloc_heap_new _ _); have HOW := Lib.hid ((HI.out.own.keepb Hlt.out h2).alloc (.cells #[.int .i64 x.pk, .int .i64 x.v.k, .bool x.v.nu, .int .i64 x.v.h.k, .int .i64 x.v.h.n, .bool x.mu] 126)); have HZ2 : Hid (w.heap.size ≤ (w1.alloc (.cells #[.int .i64 x.pk, .int .i64 x.v.k, .bool x.v.nu, .int .i64 x.v.h.k, .int .i64 x.v.h.n, .bool x.mu] 126)).heap.size) := Lib.hid (by have := HI.out.keep.size; have := h2.size; simp; omega); clear hx hu h1 h2)
          | (refine wpList_load_row rfl 126 (.tmp 6) rfl w1.heap.size rfl _ _ _ _ HB2.out Tryd.underlying126 rfl (by kernel_rfl) ?_)
          | (at_builtin; refine push_at elemF rfl (.tmp 16) (.tmp 18) rfl (w1.alloc (.cells #[.int .i64 x.pk, .int .i64 x.v.k, .bool x.v.nu, .int .i64 x.v.h.k, .int .i64 x.v.h.n, .bool x.mu] 126)) (w1.heap.size + 1) (by simp) x #[.int .i64 x.pk, .int .i64 x.v.k, .bool x.v.nu, .int .i64 x.v.h.k, .int .i64 x.v.h.n, .bool x.mu] _ rfl rfl HOW.out HZ2.out (j + 1) (by omega) (by rw [HI.out.len]) rfl ?_; intro A9 c9 w9 hown9 hg9 hr9; have HO9 := Lib.hid hown9; have HR9 := Lib.hid hr9; have HG9 := Lib.hid hg9; clear hown9 hg9 hr9))
        go_roundw
        case rel =>
          have B9 := keep_grown HOW.out HG9.out HZ2.out
          have hz1 := HI.out.keep.size
          have hz2 := HK1.out.size
          have hz9 := HG9.out.size
          simp only [World.size_alloc] at hz9
          have hlt2 : ∀ g, (Value.slice A' j c').ownBlock = some g → g < wr.heap.size := fun g hg => (HI.out.own.lt g hg).2
          have stay : ∀ g, g < w1.heap.size → (Value.slice A' j c').ownBlock ≠ some g → w9.heap[g]? = w1.heap[g]? := fun g hg hne => by
            rw [HG9.out.block g (by simp; omega) (fun e => hne e.symm)]
            exact Below.heap_alloc _ _ _ hg
          refine ⟨j + 1, A9, c9, xs ++ [x], zs ++ [p.1], p.2, by omega, by go_num, rfl, ⟨HO9.out, ?_, ?_, ?_, ?_, ?_⟩⟩
          · refine All2.snoc (HRk.out _ _ _ _ HX.out (by omega) fun g hg => ?_) ?_
            · have h1 := HU.out g hg
              exact stay g h1.2 (fun e => by have := hlt2 g e; omega)
            · have hs := HI.out.sep
              have hrel := HI.out.rel
              exact All2.impMem (fun x' z' hm hR => by
                refine HRk.out _ _ _ _ hR (by omega) fun g hg => ?_
                obtain ⟨g1, g2, g3⟩ := hs x' hm g hg
                rw [stay g (by omega) g3]
                exact HK1.out.block g g2 (fun _ e => by have : g = b := e; have := Hlt.out; omega)) hrel
          · exact HR2.out.grown HOW.out HG9.out Hlt.out HZ2.out HH.out (Nat.le_refl _)
          · exact (HI.out.keep.trans (HK1.out.trans (Keep.of_below HA2.out))).lies (Nat.le_refl _) B9
          · rw [HI.out.many]
            have e : N - j = (N - (j + 1)) + 1 := by omega
            rw [e]
            show (if (one r1).2.e = 0 then Tb.many one (N - (j + 1)) (zs ++ [(one r1).1]) (one r1).2 else ([], (one r1).2)) = _
            rw [HP.out, if_pos HP0.out]
          · intro x' hm g hg
            have hnew : ∀ g, g < w1.heap.size → (Value.slice A' j c').ownBlock ≠ some g → (Value.slice A9 (j + 1) c9).ownBlock ≠ some g := fun g h1 h2 e => by
              rcases HR9.out g e with h | h
              · exact h2 h
              · simp only [World.size_alloc] at h; omega
            rcases List.mem_append.1 hm with hm | hm
            · obtain ⟨g1, g2, g3⟩ := HI.out.sep x' hm g hg
              exact ⟨g1, by omega, hnew g (by omega) g3⟩
            · obtain rfl := List.mem_singleton.1 hm
              obtain ⟨g1, g2⟩ := HU.out g hg
              exact ⟨by omega, by omega, hnew g g2 (fun e => by have := hlt2 g e; omega)⟩
        case measure => simp [intOf]; omega
      · have HG : Hid (∀ y, RdAt y b A n c p.2 → Calls Tryd.prog 69 #[.pointer (some ⟨b, 0, none⟩)] y fun e w' => e = .returned (.bool false) ∧ y = w') := Lib.hid fun y hy => goes_any hy false (by simp [hp0])
        have HP0 := Lib.hid hp0
        clear hp0
        go_wp2_with (first
          | (go_at_call 69; refine (HG.out _ HR2.out).mono ?_; rintro e w3 ⟨rfl, rfl⟩)
          | (refine HC1.out.mono ?_; rintro e w1 ⟨x, rfl, hx, hu, h1, h2⟩; have HK1 := Lib.hid h2; have HA2 : Hid (Below w1.heap.size w1 (w1.alloc (.cells #[.int .i64 x.pk, .int .i64 x.v.k, .bool x.v.nu, .int .i64 x.v.h.k, .int .i64 x.v.h.n, .bool x.mu] 126))) := Lib.hid ((Below.refl _ _).alloc (Nat.le_refl _) _); have HR2 := Lib.hid (h1.below (Nat.le_refl _) HA2.out); clear hx hu h1 h2))
        rw [HQ.out]
        have hm : Tb.list one r = ([], p.2) := by
          rw [HL.out, HI.out.many]
          have e : N - j = (N - (j + 1)) + 1 := by omega
          rw [e]
          show (if (one r1).2.e = 0 then Tb.many one (N - (j + 1)) (zs ++ [(one r1).1]) (one r1).2 else ([], (one r1).2)) = _
          rw [HP.out, if_neg HP0.out]
        rw [hm]
        exact ⟨_, [], rfl, OwnG.nil _ _, trivial, (fun x hx => by cases hx), HR2.out, HI.out.keep.trans (HK1.out.trans (Keep.of_below HA2.out))⟩
    · have hjN : j = N := by omega
      go_wp2
      rw [HQ.out]
      have hm : Tb.list one r = (zs, r1) := by
        rw [HL.out, HI.out.many, hjN, Nat.sub_self]
        rfl
      rw [hm]
      exact ⟨_, xs, rfl, HI.out.own, HI.out.rel, HI.out.sep, HI.out.rd, HI.out.keep⟩
set_option maxHeartbeats 8000000 in
theorem listS_any {β : Type} {w : World} {b n c : Nat} {A : Option Addr} {r : Rd} (h : RdAt w b A n c r) (hn : n < 1000000) (one : Rd → β × Rd) (Rel : World → Sr → β → Prop) (Uses : Sr → Nat → Prop) (fid : Nat) (he : ∀ args w, (callFunc fid args).run Tryd.prog w = .ok (.enter fid args) w)
    (hRk : ∀ W W' x z, Rel W x z → W.heap.size ≤ W'.heap.size → (∀ g, Uses x g → W'.heap[g]? = W.heap[g]?) → Rel W' x z)
    (hone : ∀ (y : World) (r' : Rd), RdAt y b A n c r' → Keep (Db b) w y → Calls Tryd.prog fid #[.pointer (some ⟨b, 0, none⟩)] y fun e y' => ∃ x : Sr, e = .returned (.agg #[.bool x.fin, .slice x.x1.a x.x1.n x.x1.c, .int .i64 x.k, .slice x.x2.a x.x2.n x.x2.c, .slice x.x3.a x.x3.n x.x3.c, .slice x.x4.a x.x4.n x.x4.c]) ∧ Rel y' x (one r').1 ∧ (∀ g, Uses x g → y.heap.size ≤ g ∧ g < y'.heap.size) ∧ RdAt y' b A n c (one r').2 ∧ Keep (Db b) y y') :
    Calls Tryd.prog 67 #[.pointer (some ⟨b, 0, none⟩), .func (.func fid) #[.pointer (some ⟨b, 0, none⟩)] #[]] w fun e w' => ∃ v xs, e = .returned v ∧ OwnG 70 6 Sr.cs w.heap.size w' v xs ∧ All2 (Rel w') xs (Tb.list one r).1 ∧ (∀ x ∈ xs, ∀ g, Uses x g → w.heap.size ≤ g ∧ g < w'.heap.size ∧ v.ownBlock ≠ some g) ∧ RdAt w' b A n c (Tb.list one r).2 ∧ Keep (Db b) w w' := by
  obtain ⟨Q, hQ⟩ : ∃ Q : Ending → World → Prop, Q = (fun e w' => ∃ v xs, e = .returned v ∧ OwnG 70 6 Sr.cs w.heap.size w' v xs ∧ All2 (Rel w') xs (Tb.list one r).1 ∧ (∀ x ∈ xs, ∀ g, Uses x g → w.heap.size ≤ g ∧ g < w'.heap.size ∧ v.ownBlock ≠ some g) ∧ RdAt w' b A n c (Tb.list one r).2 ∧ Keep (Db b) w w') := ⟨_, rfl⟩
  rw [← hQ]
  have HC := Lib.hid (Count_rd h)
  have HN := Lib.hid (show (Tb.count r).1 < 1000000 by have := Tb.count_le r; rw [h.len] at this; omega)
  have HQ := Lib.hid hQ
  have HRk := Lib.hid hRk
  have HO := Lib.hid hone
  have Hlt := Lib.hid h.lt
  have HH := Lib.hid h
  obtain ⟨q, hq⟩ : ∃ q, Tb.count r = q := ⟨_, rfl⟩
  have hlist : Tb.list one r = Tb.many one q.1 [] q.2 := by unfold Tb.list; rw [hq]
  rw [hq] at HC HN
  have HL := Lib.hid hlist
  obtain ⟨N, hN⟩ : ∃ N, q.1 = N := ⟨_, rfl⟩
  rw [hN] at HC HN HL
  have hN2 : N < 1000000 := HN.out
  clear h hQ hRk hone hq hlist hN
  go_enter Tryd.func67, Tryd.ntmps67
  go_wp2_with (go_at_call 18; refine HC.out.mono ?_; rintro e w0 ⟨rfl, h1, h2⟩; have HR0 := Lib.hid h1; have HK0 := Lib.hid h2; clear h1 h2)
  go_loopw [5, 9] (fun out i wr => ∃ (j : Nat) (A' : Option Addr) (c' : Nat) (xs : List Sr) (zs : List β) (r1 : Rd), j ≤ N ∧ i = .int .i64 (j : Int) ∧ out = .slice A' j c' ∧ LInv b A n c N q.2 one Rel Uses 70 6 Sr.cs w wr A' j c' xs zs r1) (fun _ i _ => N - (intOf i).toNat)
  case atStart => exact ⟨0, none, 0, [], [], q.2, Nat.zero_le _, rfl, rfl, ⟨OwnG.nil _ _, trivial, HR0.out, HK0.out, rfl, fun x hx => by cases hx⟩⟩
  case round =>
    obtain ⟨j, A', c', xs, zs, r1, hj, rfl, rfl, hinv⟩ := hrel
    have HI := Lib.hid hinv
    clear hinv
    by_cases hlt : j < N
    · have HC1 := Lib.hid (HO.out wr r1 HI.out.rd HI.out.keep)
      obtain ⟨p, hp⟩ : ∃ p, one r1 = p := ⟨_, rfl⟩
      rw [hp] at HC1
      have HP := Lib.hid hp
      clear hp
      by_cases hp0 : p.2.e = 0
      · have HG : Hid (∀ y, RdAt y b A n c p.2 → Calls Tryd.prog 69 #[.pointer (some ⟨b, 0, none⟩)] y fun e w' => e = .returned (.bool true) ∧ y = w') := Lib.hid fun y hy => goes_any hy true (by simp [hp0])
        have HP0 := Lib.hid hp0
        clear hp0
        go_wp2_with (first
          | (go_at_call 69; refine (HG.out _ HR2.out).mono ?_; rintro e w3 ⟨rfl, rfl⟩)
          | (refine HC1.out.mono ?_; rintro e w1 ⟨x, rfl, hx, hu, h1, h2⟩; have HX := Lib.hid hx; have HU := Lib.hid hu; have HK1 := Lib.hid h2; have HA2 : Hid (Below w1.heap.size w1 (w1.alloc (.cells #[.bool x.fin, .slice x.x1.a x.x1.n x.x1.c, .int .i64 x.k, .slice x.x2.a x.x2.n x.x2.c, .slice x.x3.a x.x3.n x.x3.c, .slice x.x4.a x.x4.n x.x4.c] 70))) := Lib.hid ((Below.refl _ _).alloc (Nat.le_refl _) _); have HR2 := Lib.hid (h1.below (Nat.le_refl _) HA2.out); have HB2 : Hid ((w1.alloc (.cells #[.bool x.fin, .slice x.x1.a x.x1.n x.x1.c, .int .i64 x.k, .slice x.x2.a x.x2.n x.x2.c, .slice x.x3.a x.x3.n x.x3.c, .slice x.x4.a x.x4.n x.x4.c] 70)).heap[w1.heap.size]? = some (.cells #[.bool x.fin, .slice x.x1.a x.x1.n x.x1.c, .int .i64 x.k, .slice x.x2.a x.x2.n x.x2.c, .slice x.x3.a x.x3.n x.x3.c, .slice x.x4.a x.x4.n x.x4.c] 70 (0, 0))) := Lib.hid (World.alloc_heap_new _ _); have HOW := Lib.hid ((HI.out.own.keepb Hlt.out h2).alloc (.cells #[.bool x.fin, .slice x.x1.a x.x1.n x.x1.c, .int .i64 x.k, .slice x.x2.a x.x2.n x.x2.c, .slice x.x3.a x.x3.n x.x3.c, .slice x.x4.a x.x4.n x.x4.c] 70)); have HZ2 : Hid (w.heap.size ≤ (w1.alloc (.cells #[.bool x.fin, .slice x.x1.a x.x1.n x.x1.c, .int .i64 x.k, .slice x.x2.a x.x2.n x.x2.c, .slice x.x3.a x.x3.n x.x3.c, .slice x.x4.a x.x4.n x.x4.c] 70)).heap.size) := Lib.hid (by have := HI.out.keep.size; have := h2.size; simp; omega); clear hx hu h1 h2)
          | (refine wpList_load_row rfl 70 (.tmp 6) rfl w1.heap.size rfl _ _ _ _ HB2.out Tryd.underlying70 rfl (by kernel_rfl) ?_)
          | (at_builtin; refine push_at elemSub rfl (.tmp 16) (.tmp 18) rfl (w1.alloc (.cells #[.bool x.fin, .slice x.x1.a x.x1.n x.x1.c, .int .i64 x.k, .slice x.x2.a x.x2.n x.x2.c, .slice x.x3.a x.x3.n x.x3.c, .slice x.x4.a x.x4.n x.x4.c] 70)) (w1.heap.size + 1) (by simp) x #[.bool x.fin, .slice x.x1.a x.x1.n x.x1.c, .int .i64 x.k, .slice x.x2.a x.x2.n x.x2.c, .slice x.x3.a x.x3.n x.x3.c, .slice x.x4.a x.x4.n x.x4.c] _ rfl rfl HOW.out HZ2.out (j + 1) (by omega) (by rw [HI.out.len]) rfl ?_; intro A9 c9 w9 hown9 hg9 hr9; have HO9 := Lib.hid hown9; have HR9 := Lib.hid hr9; have HG9 := Lib.hid hg9; clear hown9 hg9 hr9))
        go_roundw
        case rel =>
          have B9 := keep_grown HOW.out HG9.out HZ2.out
          have hz1 := HI.out.keep.size
          have hz2 := HK1.out.size
          have hz9 := HG9.out.size
          simp only [World.size_alloc] at hz9
          have hlt2 : ∀ g, (Value.slice A' j c').ownBlock = some g → g < wr.heap.size := fun g hg => (HI.out.own.lt g hg).2
          have stay : ∀ g, g < w1.heap.size → (Value.slice A' j c').ownBlock ≠ some g → w9.heap[g]? = w1.heap[g]? := fun g hg hne => by
            rw [HG9.out.block g (by simp; omega) (fun e => hne e.symm)]
            exact Below.heap_alloc _ _ _ hg
          refine ⟨j + 1, A9, c9, xs ++ [x], zs ++ [p.1], p.2, by omega, by go_num, rfl, ⟨HO9.out, ?_, ?_, ?_, ?_, ?_⟩⟩
          · refine All2.snoc (HRk.out _ _ _ _ HX.out (by omega) fun g hg => ?_) ?_
            · have h1 := HU.out g hg
              exact stay g h1.2 (fun e => by have := hlt2 g e; omega)
            · have hs := HI.out.sep
              have hrel := HI.out.rel
              exact All2.impMem (fun x' z' hm hR => by
                refine HRk.out _ _ _ _ hR (by omega) fun g hg => ?_
                obtain ⟨g1, g2, g3⟩ := hs x' hm g hg
                rw [stay g (by omega) g3]
                exact HK1.out.block g g2 (fun _ e => by have : g = b := e; have := Hlt.out; omega)) hrel
          · exact HR2.out.grown HOW.out HG9.out Hlt.out HZ2.out HH.out (Nat.le_refl _)
          · exact (HI.out.keep.trans (HK1.out.trans (Keep.of_below HA2.out))).lies (Nat.le_refl _) B9
          · rw [HI.out.many]
            have e : N - j = (N - (j + 1)) + 1 := by omega
            rw [e]
            show (if (one r1).2.e = 0 then Tb.many one (N - (j + 1)) (zs ++ [(one r1).1]) (one r1).2 else ([], (one r1).2)) = _
            rw [HP.out, if_pos HP0.out]
          · intro x' hm g hg
            have hnew : ∀ g, g < w1.heap.size → (Value.slice A' j c').ownBlock ≠ some g → (Value.slice A9 (j + 1) c9).ownBlock ≠ some g := fun g h1 h2 e => by
              rcases HR9.out g e with h | h
              · exact h2 h
              · simp only [World.size_alloc] at h; omega
            rcases List.mem_append.1 hm with hm | hm
            · obtain ⟨g1, g2, g3⟩ := HI.out.sep x' hm g hg
              exact ⟨g1, by omega, hnew g (by omega) g3⟩
            · obtain rfl := List.mem_singleton.1 hm
              obtain ⟨g1, g2⟩ := HU.out g hg
              exact ⟨by omega, by omega, hnew g g2 (fun e => by have := hlt2 g e; omega)⟩
        case measure => simp [intOf]; omega
      · have HG : Hid (∀ y, RdAt y b A n c p.2 → Calls Tryd.prog 69 #[.pointer (some ⟨b, 0, none⟩)] y fun e w' => e = .returned (.bool false) ∧ y = w') := Lib.hid fun y hy => goes_any hy false (by simp [hp0])
        have HP0 := Lib.hid hp0
        clear hp0
        go_wp2_with (first
          | (go_at_call 69; refine (HG.out _ HR2.out).mono ?_; rintro e w3 ⟨rfl, rfl⟩)
          | (refine HC1.out.mono ?_; rintro e w1 ⟨x, rfl, hx, hu, h1, h2⟩; have HK1 := Lib.hid h2; have HA2 : Hid (Below w1.heap.size w1 (w1.alloc (.cells #[.bool x.fin, .slice x.x1.a x.x1.n x.x1.c, .int .i64 x.k, .slice x.x2.a x.x2.n x.x2.c, .slice x.x3.a x.x3.n x.x3.c, .slice x.x4.a x.x4.n x.x4.c] 70))) := Lib.hid ((Below.refl _ _).alloc (Nat.le_refl _) _); have HR2 := Lib.hid (h1.below (Nat.le_refl _) HA2.out); clear hx hu h1 h2))
        rw [HQ.out]
        have hm : Tb.list one r = ([], p.2) := by
          rw [HL.out, HI.out.many]
          have e : N - j = (N - (j + 1)) + 1 := by omega
          rw [e]
          show (if (one r1).2.e = 0 then Tb.many one (N - (j + 1)) (zs ++ [(one r1).1]) (one r1).2 else ([], (one r1).2)) = _
          rw [HP.out, if_neg HP0.out]
        rw [hm]
        exact ⟨_, [], rfl, OwnG.nil _ _, trivial, (fun x hx => by cases hx), HR2.out, HI.out.keep.trans (HK1.out.trans (Keep.of_below HA2.out))⟩
    · have hjN : j = N := by omega
      go_wp2
      rw [HQ.out]
      have hm : Tb.list one r = (zs, r1) := by
        rw [HL.out, HI.out.many, hjN, Nat.sub_self]
        rfl
      rw [hm]
      exact ⟨_, xs, rfl, HI.out.own, HI.out.rel, HI.out.sep, HI.out.rd, HI.out.keep⟩
end Go.Proofs.YtphmknhlibampaaDoor
