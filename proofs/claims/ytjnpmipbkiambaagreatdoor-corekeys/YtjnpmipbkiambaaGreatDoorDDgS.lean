import Derived.Test.YtjnpmipbkiambaaGreatDoorDDgL
import Derived.Deep.RegionHeld3
import Derived.StillTail
namespace Go.Proofs.YtjnpmipbkiambaaGreatDoor.Da
set_option maxRecDepth 100000
open Go.RowKit Go.Lib Go.Sort Go.Shelf
set_option linter.unusedVariables false
variable {w w' : World} {a : Option Addr} {cap base : Nat} {d c : List Int} {v : Value}
def sortI (d : List Int) : List Int := d.mergeSort fun x y => decide (x ≤ y)
theorem sortI_len (d : List Int) : (sortI d).length = d.length := List.length_mergeSort ..
theorem sortI_mem (d : List Int) (x : Int) : x ∈ sortI d ↔ x ∈ d := List.mem_mergeSort
theorem sortI_le (d : List Int) : (sortI d).Pairwise (· ≤ ·) := by
 have := List.pairwise_mergeSort (le := fun x y : Int => decide (x ≤ y)) (fun a b c h1 h2 => by simp at *; omega) (fun a b => by simp; omega) d
 exact this.imp (fun h => by simpa using h)
theorem sortI_nodup (d : List Int) (h : d.Nodup) : (sortI d).Nodup := ((List.mergeSort_perm d _).nodup_iff).2 h
abbrev Up (d : List Int) : Prop := d.Pairwise (· < ·)
theorem sortI_up {d : List Int} (h : d.Nodup) : Up (sortI d) := by
 have h1 := sortI_le d
 have h2 := sortI_nodup d h
 exact (h1.and h2).imp (fun ⟨a, b⟩ => by omega)
theorem Up.nodup {d : List Int} (h : Up d) : d.Nodup := h.imp (fun h => by omega)
set_option maxHeartbeats 1000000 in
theorem clone_any (h : IsI w a cap d) (hl : d.length ≤ 1000000) : Calls Tryz.prog 77 #[.slice a d.length cap] w fun e w' => ∃ v', e = .returned v' ∧ OwnI w' w.heap.size v' d ∧ Below w.heap.size w w' := by
 have hle := h.le
 have hbig := h.big
 by_cases hd : d = []
 ·subst hd
  cases a with
  | none =>
   have hc := Any.slices_Clone_int_nil layClone 0 cap w
   change Calls Tryz.prog 77 _ _ _ at hc
   refine hc.mono ?_
   rintro e w' ⟨rfl, rfl⟩
   exact ⟨_, rfl, OwnI.nil _ _, Below.refl _ _⟩
  | some x =>
   obtain ⟨i, hi, hz, hs, hby⟩ := infoI
   have hr : ∀ (g : Nat) (u : World), (Builtin.append_ #[22, 22] 22 #[.slice (some ⟨g, 0, none⟩) 0 0, .slice (some x) 0 cap]).run Tryz.prog u = .ok (.slice (some ⟨g, 0, none⟩) 0 0) u := fun g u => by
    have := run_firstCells_some (P := Tryz.prog) u i.size 0 x 0 cap [] (by simp) (fun j u hj => by simp at hj)
    simp [Builtin.append_, run_underlying Tryz.underlying22, sizeOf, typeInfo, hi, Builtin.lenOf, this, storeCells]
   have q22 : ∀ (w : World) (a : Option Addr) (n c n' c' : Nat), (binOp .eql 22 (.slice a n c) (.slice none n' c')).run Tryz.prog w = .ok (.bool a.isNone) w := fun w a n c n' c' => Lib.run_eql_slice_nil w _ _ a n c n' c' Tryz.underlying22
   go_enter Tryz.func77, Tryz.ntmps77
   go_wp2
   go_ret
   exact ⟨_, rfl, OwnI.lit w [] (Nat.le_refl _) (by simp), (Below.refl _ _).alloc (Nat.le_refl _) _⟩
 ·obtain ⟨x, r, rfl⟩ := List.exists_cons_of_ne_nil hd
  obtain ⟨b, off, rfl, _, _⟩ := h.elem 0 x rfl
  have hc := Any.slices_Clone_int layClone b off (x :: r).length cap (x :: r) w (Nat.le_refl _) (by omega) (fun j hj => by
   obtain ⟨b', off', e, _, h1⟩ := h.at hj
   cases e
   exact h1)
  change Calls Tryz.prog 77 _ _ _ at hc
  refine hc.mono ?_
  rintro e w' ⟨v', rfl, ho, _, hb⟩
  rw [List.take_length] at ho
  exact ⟨v', rfl, ho, hb⟩
theorem OwnI.of_cells {g : Nat} {cur : Array Value} (hb : base ≤ g) (hl : d.length ≤ cap) (hm : cap ≤ maxLen) (hg : w.heap[g]? = some (.cells cur 3 (0, 0))) (hs : cur.size = cap) (hc : ∀ (j : Nat) (x : Int), d[j]? = some x → cur[j]? = some (Value.int .i64 x)) :
  OwnI w base (.slice (some ⟨g, 0, none⟩) d.length cap) d := by
 refine ⟨by simp, .inr ⟨g, cap, cur, rfl, hb, hg, hl, hm, by omega, ?_⟩⟩
 apply List.ext_getElem?
 intro j
 rw [Nat.mul_one]
 by_cases hj : j < d.length
 ·rw [List.getElem?_take_of_lt hj]
  have e : d[j]? = some d[j] := List.getElem?_eq_getElem hj
  rw [cz_at e, ← hc j _ e]
  simp
 ·rw [List.getElem?_eq_none (by simp; omega), List.getElem?_eq_none (by simp; omega)]
theorem OwnI.holds {g : Nat} (h : OwnI w base (.slice (some ⟨g, 0, none⟩) d.length cap) d) : Holds (Value.int .i64) w g 0 d.toArray := by
 intro j hj
 have hj' : j < d.length := by simpa using hj
 have e : d[j]? = some d[j] := List.getElem?_eq_getElem hj'
 refine ⟨?_, by rw [Nat.zero_add]; exact h.frozen j⟩
 rw [Nat.zero_add, World.ownsRow.cellAt h j (by omega), cz_at e, getElem!_pos d.toArray j hj]
 simp
theorem OwnI.put {g : Nat} (h : OwnI w base (.slice (some ⟨g, 0, none⟩) d.length cap) d) (n : Nat) (f : List Int) (hf : f.length = d.length) (os : Array Obj) (k : Nat) (hk : c.length ≤ f.length) (hc : ∀ (j : Nat) (x : Int), c[j]? = some x → f[j]? = some x) :
  OwnI (grow (putRow (Value.int .i64) (Sort.ahead w n) g 0 f.toArray) os) base (.slice (some ⟨g, 0, none⟩) c.length cap) c ∧ w.grownBy (grow (putRow (Value.int .i64) (Sort.ahead w n) g 0 f.toArray) os) (some g) := by
 have hT := h
 obtain ⟨h1, h2⟩ := h
 rcases h2 with ⟨h2, _⟩ | ⟨g', cap', cur, e, hb, hg, hn, hcp, hz, ht⟩
 ·simp at h2
 ·simp only [Value.slice.injEq, Option.some.injEq, Addr.mk.injEq, and_true, true_and] at e
  obtain ⟨rfl, rfl⟩ := e
  have hlt : g < w.heap.size := lt_of_block hg
  have hW : (grow (putRow (Value.int .i64) (Sort.ahead w n) g 0 f.toArray) os).heap[g]? = some (.cells (putCells (Value.int .i64) 0 f.toArray cur) 3 (0, 0)) := by
   rw [heap_grow_old _ _ (by simpa [putRow, mapBlock, Sort.ahead] using hlt)]
   show (w.heap.modify g _)[g]? = _
   rw [Array.getElem?_modify, if_pos rfl, hg]
   rfl
  refine ⟨OwnI.of_cells hb (by omega) hcp hW (by simp [putCells]; omega) (fun j x hx => ?_), ⟨rfl, rfl, rfl, by simp [grow, putRow, mapBlock, Sort.ahead], fun i hi hne => ?_⟩⟩
  ·have hj := (List.getElem?_eq_some_iff.1 (hc j x hx)).1
   have hcs : j < cur.size := by omega
   have e := hc j x hx
   have e2 : f.toArray[j]! = x := by
    rw [getElem!_pos f.toArray j (by simpa using hj)]
    simpa using (List.getElem?_eq_some_iff.1 e).2
   simp [putCells, hcs, hj]
   simpa using (List.getElem?_eq_some_iff.1 e).2
  ·rw [heap_grow_old _ _ (by simpa [putRow, mapBlock, Sort.ahead] using hi)]
   show (w.heap.modify g _)[i]? = _
   rw [Array.getElem?_modify, if_neg (fun e => hne (by rw [e]))]
theorem sort_any (h : OwnI w base v d) (hl : d.length < 4611686018427387904) : Calls Tryz.prog 76 #[v] w fun e w' => e = .returned (.tuple #[]) ∧ OwnI w' base v (sortI d) ∧ w.grownBy w' v.ownBlock := by
 by_cases hd : d = []
 ·subst hd
  obtain ⟨a, cap, rfl, _⟩ := h.isI
  have hc := Any.slices_Sort_int_none laySort a cap w
  change Calls Tryz.prog 76 _ _ _ at hc
  refine hc.mono ?_
  rintro e w' ⟨rfl, rfl⟩
  exact ⟨rfl, by simpa [sortI] using h, ⟨rfl, rfl, rfl, Nat.le_refl _, fun _ _ _ => rfl⟩⟩
 ·obtain ⟨g, cap, rfl⟩ := h.addr hd
  have hc : Calls Tryz.prog (laySort_ren.f 189) _ _ _ := calls_of_every_depth fun D => AnyS.slices_Sort_int_in laySort D g 0 cap d w h.holds (h.rowLt rfl).2 hl
  change Calls Tryz.prog 76 _ _ _ at hc
  refine hc.mono ?_
  rintro e w' ⟨rfl, n, os, rfl⟩
  obtain ⟨q1, q2⟩ := h.put (c := sortI d) n (sortI d) (sortI_len d) os 0 (Nat.le_refl _) (fun _ _ h => h)
  rw [sortI_len] at q1
  exact ⟨rfl, q1, q2⟩
set_option maxHeartbeats 1000000 in
theorem rising_any (h : IsI w a cap d) (hl : d.length ≤ 1000000) : Calls Tryz.prog 116 #[.slice a d.length cap] w fun e w' => ∃ v', e = .returned v' ∧ OwnI w' w.heap.size v' (sortI d) ∧ Below w.heap.size w w' := by
 have hc := clone_any h hl
 go_enter Tryz.func116, Tryz.ntmps116
 go_wp2_with fail
 refine hc.mono ?_
 rintro e w1 ⟨v1, rfl, o1, b1⟩
 have hs := sort_any o1 (by omega)
 clear hc
 go_wp2_with fail
 refine hs.mono ?_
 rintro e w2 ⟨rfl, o2, g2⟩
 have b2 : Below w.heap.size w w2 := b1.grown g2 b1.size (fun k hk => (o1.rowLt hk).1)
 clear hs g2
 go_wp2_with fail
 go_ret
 exact ⟨_, rfl, o2, b2⟩
end Go.Proofs.YtjnpmipbkiambaaGreatDoor.Da
namespace Go.Proofs.YtjnpmipbkiambaaGreatDoor.Da
set_option maxRecDepth 100000
open Go.RowKit Go.Lib Go.WideMaps Go.Maps
set_option linter.unusedVariables false
variable {w w' : World} {B M0 N N' : Nat} {M : Bool → Nat} {fp gp : Int × Int → Option Value} {f : Bool → Int → Option Value} {l : Bool → Int → List Int}
theorem DgA.cell0 (h : DgA w B M0 M fp f l N) : w.cell? ⟨B, 0, none⟩ = some (.map (some M0)) ∧ w.cell? ⟨B, 1, none⟩ = some (.map (some (M true))) ∧ w.cell? ⟨B, 2, none⟩ = some (.map (some (M false))) := by
 have := h.head
 refine ⟨?_, ?_, ?_⟩ <;> (rw [cell_of_row _ _ _ _ _ _ this]; rfl)
set_option maxHeartbeats 1000000 in
theorem behind_any (h : DgA w B M0 M fp f l N) (hN : N ≤ 1000000) (i : Int) (hi : wfI i) : Calls Tryz.prog 201 #[.pointer (some ⟨B, 0, none⟩), .int .i64 i] w fun e w' => ∃ v', e = .returned v' ∧ OwnI w' w.heap.size v' (sortI (l true i)) ∧ Below w.heap.size w w' := by
 obtain ⟨c0, c1, c2⟩ := h.cell0
 have hl := h.look true hi
 obtain ⟨a, cap, e, q⟩ := h.lvlen true i
 rw [e] at hl
 have hr := rising_any q (by have := h.len true i; omega)
 clear c0 c2
 go_enter Tryz.func201, Tryz.ntmps201
 go_wp2_with fail
 refine hr.mono ?_
 rintro e w1 ⟨v1, rfl, o1, b1⟩
 clear hr hl c1
 go_wp2_with fail
 go_ret
 exact ⟨_, rfl, o1, b1⟩
theorem new_any (w : World) : Calls Tryz.prog 42 #[] w fun e w' => ∃ B M0 M, e = .returned (.pointer (some ⟨B, 0, none⟩)) ∧ DgA w' B M0 M (fun _ => none) (fun _ _ => none) (fun _ _ => []) 0 ∧ (∀ k, ft B M0 M (fun _ _ => none) k → w.heap.size ≤ k) ∧ Below w.heap.size w w' := by
 have hmm := @run_makeMap Tryz.prog
 obtain ⟨S, hS⟩ : ∃ S, w.heap.size = S := ⟨_, rfl⟩
 have b1 : Below S w (w.alloc (.map #[] 0)) := (Below.refl _ _).alloc (by omega) _
 have b2 : Below S w ((w.alloc (.map #[] 0)).alloc (.map #[] 0)) := b1.alloc (by simp; omega) _
 have b3 : Below S w (((w.alloc (.map #[] 0)).alloc (.map #[] 0)).alloc (.map #[] 0)) := b2.alloc (by simp; omega) _
 obtain ⟨w4, hw4⟩ : ∃ w4, (((w.alloc (.map #[] 0)).alloc (.map #[] 0)).alloc (.map #[] 0)).alloc (.cells #[.map (some S), .map (some (S + 1)), .map (some (S + 1 + 1))] 195) = w4 := ⟨_, rfl⟩
 have b4 : Below S w w4 := by rw [← hw4]; exact b3.alloc (by simp; omega) _
 have hB : w4.heap[S + 1 + 1 + 1]? = some (.cells #[.map (some S), .map (some (S + 1)), .map (some (S + 1 + 1))] 195 (0, 0)) := by
  rw [← hw4]
  have := heap_alloc_new (((w.alloc (.map #[] 0)).alloc (.map #[] 0)).alloc (.map #[] 0)) (.cells #[.map (some S), .map (some (S + 1)), .map (some (S + 1 + 1))] 195)
  simpa [hS] using this
 have old : ∀ k, k < S + 1 + 1 + 1 → w4.heap[k]? = (((w.alloc (.map #[] 0)).alloc (.map #[] 0)).alloc (.map #[] 0)).heap[k]? := fun k hk => by
  rw [← hw4]; exact heap_alloc_old _ _ (by simp [hS]; omega)
 have m0 : MapG keyP w4 S (fun _ => none) 0 := by
  have := MapG.made keyP w
  rw [hS] at this
  exact this.of_block ((old S (by omega)).trans ((heap_alloc_old _ _ (by simp [hS]; omega)).trans (heap_alloc_old _ _ (by simp [hS]))))
 have m1 : MapG keyI w4 (S + 1) (fun _ => none) 0 := by
  have := MapG.made keyI (w.alloc (.map #[] 0))
  rw [show (w.alloc (.map #[] 0)).heap.size = S + 1 by simp [hS]] at this
  exact this.of_block ((old (S + 1) (by omega)).trans (heap_alloc_old _ _ (by simp [hS])))
 have m2 : MapG keyI w4 (S + 1 + 1) (fun _ => none) 0 := by
  have := MapG.made keyI ((w.alloc (.map #[] 0)).alloc (.map #[] 0))
  rw [show ((w.alloc (.map #[] 0)).alloc (.map #[] 0)).heap.size = S + 1 + 1 by simp [hS]] at this
  exact this.of_block (old (S + 1 + 1) (by omega))
 have D : DgA w4 (S + 1 + 1 + 1) S (fun s => if s then S + 1 else S + 1 + 1) (fun _ => none) (fun _ _ => none) (fun _ _ => []) 0 :=
  ⟨hB, ⟨0, m0, Nat.le_refl _⟩, fun s => ⟨0, by cases s; exact m2; exact m1, Nat.le_refl _⟩, fun _ _ _ h => (by cases h), fun _ _ _ => rfl, fun _ _ => Nat.le_refl _, fun _ _ _ _ _ _ _ h => (by cases h), fun s => by cases s <;> simp <;> omega, by simp⟩
 have F : ∀ k, ft (S + 1 + 1 + 1) S (fun s => if s then S + 1 else S + 1 + 1) (fun _ _ => none) k → S ≤ k := by
  rintro k (rfl | rfl | ⟨s, rfl⟩ | ⟨s, i, v, h, _⟩)
  ·omega
  ·omega
  ·cases s <;> simp <;> omega
  ·cases h
 have H4 : Hid _ := hw4
 clear hw4 hB old m0 m1 m2 b1 b2 b3
 go_enter Tryz.func42, Tryz.ntmps42
 go_wp2_with fail
 rw [H4.out]
 go_ret
 exact ⟨_, _, _, rfl, D, by rw [hS]; exact F, by rw [hS]; exact b4⟩
theorem bneN (a b : Nat) : ((a : Int) != (b : Int)) = !decide (a = b) := by
 by_cases h : a = b
 ·subst h; simp
 ·simp [h, bne]; omega
set_option maxHeartbeats 2000000 in
theorem leave_any (h : DgA w B M0 M fp f l N) (hN : N ≤ 1000000) (s : Bool) (id : Int) (place : Nat) (hp : place < (l s id).length) :
  Calls Tryz.prog 324 #[.map (some (M s)), .int .i64 id, .int .i64 place] w fun e w' => e = .returned (.tuple #[.int .i64 (lastI (l s id)), .bool (decide (place ≠ (l s id).length - 1))]) ∧
   ∃ f', DgA w' B M0 M fp f' (lset l s id (rm (l s id) place)) N ∧ Fr (ft B M0 M f) w w' ∧ ∀ k, ft B M0 M f' k → ft B M0 M f k := by
 obtain ⟨L, hL⟩ : ∃ L, l s id = L := ⟨_, rfl⟩
 obtain ⟨v, hv⟩ : ∃ v, f s id = some v := by
  cases hf : f s id with
  | none => rw [h.non s id hf] at hp; simp at hp
  | some v => exact ⟨v, rfl⟩
 obtain ⟨o, one⟩ := h.own s id v hv
 rw [hL] at o one hp ⊢
 obtain ⟨m, hm⟩ : ∃ m, L.length = m + 1 := ⟨L.length - 1, by omega⟩
 obtain ⟨g, cap, rfl⟩ := o.addr one
 obtain ⟨n0, q, hn0⟩ := h.mi s
 have wid : wfI id := q.okey hv
 have hlk := h.look s wid
 have elv : lv f s id = .slice (some ⟨g, 0, none⟩) (m + 1) cap := by unfold lv; rw [hv, hm]; rfl
 rw [elv] at hlk
 have hlast := lastI_at one
 obtain ⟨x, hx⟩ : ∃ x, lastI L = x := ⟨_, rfl⟩
 rw [hx] at hlast ⊢
 have cell : w.cell? ⟨g, m, none⟩ = some (.int .i64 x) := by
  obtain ⟨b, off, e, _, hc⟩ := o.isIv.elem _ _ hlast
  cases e
  rw [Nat.zero_add, show L.length - 1 = m by omega] at hc
  exact hc
 have cellp : w.cell? ⟨g, place, none⟩ = some (.int .i64 (L.getD place 0)) := by
  obtain ⟨b, off, e, _, hc⟩ := o.isIv.at hp
  cases e
  rw [Nat.zero_add] at hc
  exact hc
 have frz := o.frozen place
 have hcap : m + 1 ≤ cap ∧ cap ≤ 9223372036854775807 := by have := o.isIv.le; have := o.isIv.big; unfold maxLen at this; omega
 have hgM := (h.row hv rfl).2.2.2 s
 have q1 : MapG keyI (w.setCell ⟨g, place, none⟩ (.int .i64 x)) (M s) (f s) n0 := q.of_block (heap_setCell_other _ _ _ _ (fun e => hgM e.symm))
 obtain ⟨w2, n2, hr2, q2, hn2, g2⟩ := q1.store Tryz.underlying193 (by omega) (x := id) wid (.slice (some ⟨g, 0, none⟩) m cap)
 rw [hv] at hn2
 have hn2 : n2 = n0 := by simpa using hn2
 change (Instr.mapUpdate 193 (.map (some (M s))) (.int .i64 id) _).run _ _ = _ at hr2
 have er : rm L place = (L.set place x).take m := by unfold rm; rw [hx, show L.length - 1 = m by omega]
 have o1 := (o.set place x).cut (k := m) (by rw [List.length_set]; omega)
 rw [← er, rm_len, show L.length - 1 = m by omega] at o1
 have F1 : Fr (fun k => k = M s ∨ ∃ v, f s id = some v ∧ v.ownBlock = some k) w (w.setCell ⟨g, place, none⟩ (.int .i64 x)) := Fr.setCell _ _ _ _ _ (.inr ⟨_, hv, rfl⟩)
 have F2 : Fr (fun k => k = M s ∨ ∃ v, f s id = some v ∧ v.ownBlock = some k) w w2 := F1.trans (Fr.of_grown g2) (fun j hj => by injection hj with hj; exact .inl (.inl hj.symm))
 have o2 : OwnI w2 0 (.slice (some ⟨g, 0, none⟩) m cap) (rm L place) := o1.fr (Fr.of_grown g2) (fun k hk e => by injection hk with hk; injection e with e; exact hgM (by rw [e]; exact hk))
 have hft : ∀ k, (k = M s ∨ ∃ v, f s id = some v ∧ v.ownBlock = some k) → ft B M0 M f k := fun k hk => by
  rcases hk with hk | ⟨v, h1, h2⟩
  ·exact .inr (.inr (.inl ⟨s, hk⟩))
  ·exact .inr (.inr (.inr ⟨s, id, v, h1, h2⟩))
 have lenr : (rm L place).length ≤ N := by rw [rm_len]; have := h.len s id; rw [hL] at this; omega
 have edec : (place ≠ L.length - 1) = (place ≠ m) := by rw [show L.length - 1 = m by omega]
 simp only [edec]
 have ew1 : ((m + 1 : Nat) : Int) - 1 = (m : Int) := by omega
 by_cases c0 : m = 0
 ·subst c0
  obtain ⟨w3, n3, hr3, q3, hn3, g3⟩ := q2.drop Tryz.underlying193 (x := id) (u := .slice (some ⟨g, 0, none⟩) 0 cap) (by simp [fput]) 0
  change (Builtin.delete_ #[193, 3] 0 #[.map (some (M s)), .int .i64 id]).run _ _ = _ at hr3
  have F3 : Fr (fun k => k = M s ∨ ∃ v, f s id = some v ∧ v.ownBlock = some k) w w3 := F2.trans (Fr.of_grown g3) (fun j hj => by injection hj with hj; exact .inl (.inl hj.symm))
  have er0 : rm L place = [] := List.length_eq_zero_iff.1 (by rw [rm_len]; omega)
  obtain ⟨D, hD⟩ := h.turn (s := s) (id := id) (d := rm L place) q3 (by omega) lenr F3 (fun j hj => by simp [fdel, fput, hj]) (.inl ⟨by simp [fdel], er0⟩)
  have hD' : ∀ k, ft B M0 M (fset f s (fdel (fput (f s) id (.slice (some ⟨g, 0, none⟩) 0 cap)) id)) k → ft B M0 M f k := fun k hk => by
   rcases hk with hk | hk | hk | ⟨a, i, v, h1, h2⟩
   ·exact .inl hk
   ·exact .inr (.inl hk)
   ·exact .inr (.inr (.inl hk))
   ·by_cases c : a = s
    ·subst c
     rw [fset_same] at h1
     simp [fdel, fput] at h1
     obtain ⟨h0, h1⟩ := h1
     rw [if_neg h0] at h1
     exact .inr (.inr (.inr ⟨a, i, v, h1, h2⟩))
    ·rw [fset_ne _ _ c] at h1
     exact .inr (.inr (.inr ⟨a, i, v, h1, h2⟩))
  have FIN : Aside (∃ f', DgA w3 B M0 M fp f' (lset l s id (rm L place)) N ∧ Fr (ft B M0 M f) w w3 ∧ ∀ k, ft B M0 M f' k → ft B M0 M f k) := ⟨_, D, F3.mono hft, hD'⟩
  have hp0 : place = 0 := by omega
  subst hp0
  clear h o q q1 q2 q3 g2 g3 o1 o2 F1 F2 F3 D hD hD' hft hlast hgM hn2 hn3 er0 er elv hv hL hn0 edec
  go_enter Tryz.func324, Tryz.ntmps324
  go_wp2_with fail
  refine bodyPost_ret (v := .tuple #[.int .i64 x, .bool (decide (0 ≠ 0))]) (by simp [results, Tryz.results324, go_sem]) rfl ⟨rfl, FIN.out⟩
 ·have nem : rm L place ≠ [] := fun e => c0 (by have := rm_len L place; rw [e] at this; simp at this; omega)
  have oo := o2
  rw [show m = (rm L place).length by rw [rm_len]; omega] at oo
  obtain ⟨D, hD⟩ := h.turn (s := s) (id := id) (d := rm L place) q2 (by omega) lenr F2 (fun j hj => by simp [fput, hj]) (.inr ⟨_, by simp [fput], o2, nem, fun k hk => .inl ⟨_, hv, hk⟩⟩)
  have hD' : ∀ k, ft B M0 M (fset f s (fput (f s) id (.slice (some ⟨g, 0, none⟩) m cap))) k → ft B M0 M f k := fun k hk => by
   rcases hk with hk | hk | hk | ⟨a, i, v, h1, h2⟩
   ·exact .inl hk
   ·exact .inr (.inl hk)
   ·exact .inr (.inr (.inl hk))
   ·by_cases c : a = s
    ·subst c
     rw [fset_same] at h1
     unfold fput at h1
     split at h1
     ·injection h1 with h1
      subst h1
      exact .inr (.inr (.inr ⟨a, id, _, hv, h2⟩))
     ·exact .inr (.inr (.inr ⟨a, i, v, h1, h2⟩))
    ·rw [fset_ne _ _ c] at h1
     exact .inr (.inr (.inr ⟨a, i, v, h1, h2⟩))
  have FIN : Aside (∃ f', DgA w2 B M0 M fp f' (lset l s id (rm L place)) N ∧ Fr (ft B M0 M f) w w2 ∧ ∀ k, ft B M0 M f' k → ft B M0 M f k) := ⟨_, D, F2.mono hft, hD'⟩
  clear h o q q1 q2 g2 o1 o2 F1 F2 D hD hD' hft hlast hgM hn2 er elv hv hL hn0 edec oo nem
  go_enter Tryz.func324, Tryz.ntmps324
  go_wp2_with fail
  refine bodyPost_ret (v := .tuple #[.int .i64 x, .bool (decide (place ≠ m))]) (by simp [results, Tryz.results324, go_sem, bneN]) rfl ⟨rfl, FIN.out⟩
end Go.Proofs.YtjnpmipbkiambaaGreatDoor.Da
namespace Go.Proofs.YtjnpmipbkiambaaGreatDoor.Da
set_option maxRecDepth 100000
set_option linter.unusedVariables false
section
variable {P : Program} {ops : Array Oper} {Q : Exit → Act → World → Prop} {md : Region.Mode} {S : World → Prop} {L : Nat}
def wpAnyE (P : Program) (md : Region.Mode) (ops : Array Oper) (Q : Exit → Act → World → Prop) (S : World → Prop) (L : Nat) : Nat → Array Bool → Act → World → Prop
 | 0, lst, a, w => Region.ready md ops lst = [] ∧ Q .normal a w
 | f + 1, lst, a, w => (Region.ready md ops lst = [] → Q .normal a w) ∧
   ∀ i ∈ Region.ready md ops lst, wpOp P ops Q i (fun b u => (i ≠ L → S u) ∧ wpAnyE P md ops Q S L f (lst.setIfInBounds i true) b u) a w
theorem anyE_any : ∀ (f : Nat) (lst : Array Bool) (a : Act) (w : World), wpAnyE P md ops Q S L f lst a w → wpAny P md ops Q f lst a w
 | 0, _, _, _, h => h
 | f + 1, _, _, _, h => ⟨h.1, fun i hi => wpOp_mono (fun b u g => anyE_any f _ b u g.2) (h.2 i hi)⟩
theorem anyE_start {id : Nat} {a : Act} {w : World} (hm : P.follows .mixedOrders = true) (h : wpAnyE P .any ops Q S L ops.size (Array.replicate ops.size false) a w.drew) : (Code.region id ops true).wp P Q a w :=
 wp_region_any hm (anyE_any _ _ _ _ h)
theorem anyE_first {i : Nat} {oi : Oper} {v : Value} (hi : ops[i]? = some oi) (hsel : Region.noSelect ops = true) (hL : Region.waitsFor md ops L i = true) (hQ : ∀ c a w, Q (.panic c) (a.put oi.dst v) w → Q (.panic c) a w) :
  ∀ (f : Nat) (lst : Array Bool) (a : Act) (w : World), (∀ j oj, ops[j]? = some oj → j ≠ i → lst.getD j true = false → (∀ e ∈ oj.after, Region.binds md e = true → e.on ≠ i) → oi.apart ops oj = true) →
   i ∈ Region.ready md ops lst → YieldsIf P ops S oi v a → S w → wpAnyE P md ops Q S L f (lst.setIfInBounds i true) (a.put oi.dst v) w → wpAnyE P md ops Q S L (f + 1) lst a w := by
 intro f
 induction f with
 | zero =>
  intro lst a w _ hr hy hS H
  refine ⟨fun h => (by rw [h] at hr; cases hr), fun j hj => ?_⟩
  by_cases e : j = i
  ·subst e; exact hy.wpOp hi hS ⟨fun _ => hS, H⟩
  ·have := ready_mono hj e
   rw [H.1] at this
   cases this
 | succ f ih =>
  intro lst a w hfree hr hy hS H
  refine ⟨fun h => (by rw [h] at hr; cases hr), fun j hj => ?_⟩
  by_cases e : j = i
  ·subst e; exact hy.wpOp hi hS ⟨fun _ => hS, H⟩
  ·obtain ⟨hjun, oj, hoj, hall⟩ := mem_ready.1 hj
   have hr0 := (mem_ready.1 hr).1
   have hnot : ∀ x ∈ oj.after, Region.binds md x = true → x.on ≠ i := fun x hx hb he => by
    have h1 := hall x hx hb
    rw [he] at h1
    rcases Nat.lt_or_ge i lst.size with c | c
    ·simp [c] at hr0 h1; rw [hr0] at h1; cases h1
    ·simp [Array.getElem?_eq_none c] at h1
   have ns := Region.noSelect_spec hsel
   have step := wpOp_putIf hoj (hfree j oj hoj e hjun hnot) (fun cs b => ns i oi cs b hi) (fun cs b => ns j oj cs b hoj) hQ hy (H.2 j (ready_mono hj e))
   have hri := ready_mono hr (Ne.symm e)
   have hfree' : ∀ k ok, ops[k]? = some ok → k ≠ i → (lst.setIfInBounds j true).getD k true = false → (∀ x ∈ ok.after, Region.binds md x = true → x.on ≠ i) → oi.apart ops ok = true := fun k ok hk hki hun hno => by
    refine hfree k ok hk hki ?_ hno
    by_cases c : j = k
    ·subst c; exact hjun
    ·rw [getD_set_ne true c] at hun; exact hun
   refine wpOp_mono (fun b u g => ?_) step
   have jL : j ≠ L := by
    rintro rfl
    obtain ⟨o', ho', x, hx, hb, he⟩ := Region.waitsFor_spec hL
    rw [hoj] at ho'
    injection ho' with ho'
    subst ho'
    exact hnot x hx hb he
   have hS' := g.2.1 jL
   refine ⟨fun _ => hS', ih (lst.setIfInBounds j true) b u hfree' hri g.1 hS' ?_⟩
   rw [Array.setIfInBounds_comm _ _ e]
   exact g.2.2
theorem anyE_take {i : Nat} {oi : Oper} {v : Value} {f : Nat} {lst : Array Bool} {a : Act} {w : World} (hi : ops[i]? = some oi) (hs : Region.noSelect ops = true) (hL : Region.waitsFor md ops L i = true) (hf : Region.free md ops lst i = true) (hr : (Region.ready md ops lst).contains i = true)
  (hQ : ∀ c a w, Q (.panic c) (a.put oi.dst v) w → Q (.panic c) a w) (hy : YieldsIf P ops S oi v a) (hS : S w) (h : wpAnyE P md ops Q S L f (lst.setIfInBounds i true) (a.put oi.dst v) w) : wpAnyE P md ops Q S L (f + 1) lst a w :=
 anyE_first hi hs hL hQ f lst a w (Region.free_spec hi hf) (by simpa using hr) hy hS h
def AllE (P : Program) (md : Region.Mode) (ops : Array Oper) (Q : Exit → Act → World → Prop) (S : World → Prop) (L f : Nat) (lst : Array Bool) (a : Act) (w : World) (rs : List Nat) : Prop :=
 ∀ i ∈ rs, wpOp P ops Q i (fun b u => (i ≠ L → S u) ∧ wpAnyE P md ops Q S L f (lst.setIfInBounds i true) b u) a w
theorem anyE_ready {rs : List Nat} {f : Nat} {lst : Array Bool} {a : Act} {w : World} (hr : Region.ready md ops lst = rs) (hne : rs ≠ []) (h : AllE P md ops Q S L f lst a w rs) : wpAnyE P md ops Q S L (f + 1) lst a w :=
 ⟨fun c => absurd (hr.symm.trans c) hne, fun i hi => h i (by rw [← hr]; exact hi)⟩
theorem AllE.nil {f : Nat} {lst : Array Bool} {a : Act} {w : World} : AllE P md ops Q S L f lst a w [] := fun _ h => by cases h
theorem AllE.cons {f : Nat} {lst : Array Bool} {a : Act} {w : World} {i : Nat} {o : Oper} {rs : List Nat} (ho : ops[i]? = some o)
  (h : ∀ K : Act → World → Prop, Shut (∀ a w, (i ≠ L → S w) → wpAnyE P md ops Q S L f (lst.setIfInBounds i true) a w → K a w) → if Region.wanted o (yielded ops a.tmps) = true then Oper.wp P o a w K Q else K (a.put o.dst undef) w)
  (hs : AllE P md ops Q S L f lst a w rs) : AllE P md ops Q S L f lst a w (i :: rs) := fun j hj => by
 rcases List.mem_cons.1 hj with rfl | hj
 ·exact wpOp_step ho (fun K hK => h K (fun a w h1 h2 => hK a w ⟨h1, h2⟩))
 ·exact hs j hj
theorem anyE_done {lst : Array Bool} {a : Act} {w : World} (hr : Region.ready md ops lst = []) (h : Q .normal a w) : ∀ f, wpAnyE P md ops Q S L f lst a w
 | 0 => ⟨hr, h⟩
 | _ + 1 => ⟨fun _ => h, by rw [hr]; simp⟩
end
end Go.Proofs.YtjnpmipbkiambaaGreatDoor.Da
namespace Go.Proofs.YtjnpmipbkiambaaGreatDoor.Da
set_option maxRecDepth 100000
set_option linter.unusedVariables false
section
variable {P : Program} {ops : Array Oper} {Q : Exit → Act → World → Prop} {md : Region.Mode} {S : World → Prop} {L : Nat}
def chainOk (md : Region.Mode) (ops : Array Oper) : Nat → List Nat → Nat → Bool
 | i, [], L => Region.waitsFor md ops L i
 | i, m :: ms, L => Region.waitsFor md ops m i && chainOk md ops m ms L
theorem not_ready {lst : Array Bool} {a b : Nat} (hw : Region.waitsFor md ops a b = true) (hb : lst.getD b true = false) : a ∉ Region.ready md ops lst := fun h => by
 obtain ⟨_, oj, hoj, hall⟩ := mem_ready.1 h
 obtain ⟨o', ho', x, hx, hbd, he⟩ := Region.waitsFor_spec hw
 rw [hoj] at ho'
 injection ho' with ho'
 subst ho'
 have h1 := hall x hx hbd
 rw [he] at h1
 rcases Nat.lt_or_ge b lst.size with c | c
 ·simp [c] at hb h1; rw [hb] at h1; cases h1
 ·simp [Array.getElem?_eq_none c] at h1
theorem chain_not {lst : Array Bool} {j : Nat} (hj : j ∈ Region.ready md ops lst) : ∀ (ms : List Nat) (i : Nat), chainOk md ops i ms L = true → lst.getD i true = false → (∀ m ∈ ms, lst.getD m true = false) → j ∉ ms ∧ j ≠ L
 | [], i, h, hi, _ => ⟨by simp, fun e => not_ready h hi (e ▸ hj)⟩
 | m :: ms, i, h, hi, hu => by
  simp only [chainOk, Bool.and_eq_true] at h
  obtain ⟨h1, h2⟩ := chain_not hj ms m h.2 (hu m (by simp)) (fun x hx => hu x (by simp [hx]))
  refine ⟨fun hx => ?_, h2⟩
  rcases List.mem_cons.1 hx with e | hx
  ·exact not_ready h.1 hi (e ▸ hj)
  ·exact h1 hx
theorem anyF_first {i : Nat} {oi : Oper} {v : Value} (ms : List Nat) (hi : ops[i]? = some oi) (hsel : Region.noSelect ops = true) (hL : chainOk md ops i ms L = true) (hQ : ∀ c a w, Q (.panic c) (a.put oi.dst v) w → Q (.panic c) a w) :
  ∀ (f : Nat) (lst : Array Bool) (a : Act) (w : World), (∀ m ∈ ms, lst.getD m true = false) → (∀ j oj, ops[j]? = some oj → j ≠ i → lst.getD j true = false → (∀ e ∈ oj.after, Region.binds md e = true → e.on ≠ i) → oi.apart ops oj = true) →
   i ∈ Region.ready md ops lst → YieldsIf P ops S oi v a → S w → wpAnyE P md ops Q S L f (lst.setIfInBounds i true) (a.put oi.dst v) w → wpAnyE P md ops Q S L (f + 1) lst a w := by
 intro f
 induction f with
 | zero =>
  intro lst a w _ _ hr hy hS H
  refine ⟨fun h => (by rw [h] at hr; cases hr), fun j hj => ?_⟩
  by_cases e : j = i
  ·subst e; exact hy.wpOp hi hS ⟨fun _ => hS, H⟩
  ·have := ready_mono hj e
   rw [H.1] at this
   cases this
 | succ f ih =>
  intro lst a w hu hfree hr hy hS H
  refine ⟨fun h => (by rw [h] at hr; cases hr), fun j hj => ?_⟩
  by_cases e : j = i
  ·subst e; exact hy.wpOp hi hS ⟨fun _ => hS, H⟩
  ·obtain ⟨hjun, oj, hoj, hall⟩ := mem_ready.1 hj
   have hr0 := (mem_ready.1 hr).1
   have hnot : ∀ x ∈ oj.after, Region.binds md x = true → x.on ≠ i := fun x hx hb he => by
    have h1 := hall x hx hb
    rw [he] at h1
    rcases Nat.lt_or_ge i lst.size with c | c
    ·simp [c] at hr0 h1; rw [hr0] at h1; cases h1
    ·simp [Array.getElem?_eq_none c] at h1
   have ns := Region.noSelect_spec hsel
   have step := wpOp_putIf hoj (hfree j oj hoj e hjun hnot) (fun cs b => ns i oi cs b hi) (fun cs b => ns j oj cs b hoj) hQ hy (H.2 j (ready_mono hj e))
   have hri := ready_mono hr (Ne.symm e)
   have hfree' : ∀ k ok, ops[k]? = some ok → k ≠ i → (lst.setIfInBounds j true).getD k true = false → (∀ x ∈ ok.after, Region.binds md x = true → x.on ≠ i) → oi.apart ops ok = true := fun k ok hk hki hun hno => by
    refine hfree k ok hk hki ?_ hno
    by_cases c : j = k
    ·subst c; exact hjun
    ·rw [getD_set_ne true c] at hun; exact hun
   refine wpOp_mono (fun b u g => ?_) step
   obtain ⟨jm, jL⟩ := chain_not (L := L) hj ms i hL hr0 hu
   have hS' := g.2.1 jL
   have hu' : ∀ m ∈ ms, (lst.setIfInBounds j true).getD m true = false := fun m hm => by
    have hc : j ≠ m := fun c => jm (by rw [c]; exact hm)
    rw [getD_set_ne true hc]; exact hu m hm
   refine ⟨fun _ => hS', ih (lst.setIfInBounds j true) b u hu' hfree' hri g.1 hS' ?_⟩
   rw [Array.setIfInBounds_comm _ _ e]
   exact g.2.2
theorem anyF_take (ms : List Nat) {i : Nat} {oi : Oper} {v : Value} {f : Nat} {lst : Array Bool} {a : Act} {w : World} (hi : ops[i]? = some oi) (hs : Region.noSelect ops = true) (hL : chainOk md ops i ms L = true) (hu : (ms.all fun m => !lst.getD m true) = true) (hf : Region.free md ops lst i = true) (hr : (Region.ready md ops lst).contains i = true)
  (hQ : ∀ c a w, Q (.panic c) (a.put oi.dst v) w → Q (.panic c) a w) (hy : YieldsIf P ops S oi v a) (hS : S w) (h : wpAnyE P md ops Q S L f (lst.setIfInBounds i true) (a.put oi.dst v) w) : wpAnyE P md ops Q S L (f + 1) lst a w :=
 anyF_first ms hi hs hL hQ f lst a w (fun m hm => by simpa using List.all_eq_true.1 hu m hm) (Region.free_spec hi hf) (by simpa using hr) hy hS h
end
end Go.Proofs.YtjnpmipbkiambaaGreatDoor.Da
namespace Go.Proofs.YtjnpmipbkiambaaGreatDoor.Da
set_option maxRecDepth 100000
open Go.RowKit Go.Lib Go.WideMaps Go.Maps
set_option linter.unusedVariables false
variable {w w' : World} {B M0 N N' : Nat} {M : Bool → Nat} {fp gp : Int × Int → Option Value} {f : Bool → Int → Option Value} {l : Bool → Int → List Int}
theorem DgA.drew (h : DgA w B M0 M fp f l N) : DgA w.drew B M0 M fp f l N := h.below ((Below.refl _ _).drew)
end Go.Proofs.YtjnpmipbkiambaaGreatDoor.Da
