/- shared: firstOf, firstBelow, laid. -/
import Derived.Test.YtboccihcomaaoaaShrR
import Derived.Test.YtboccihcomaaoaaBlkC
namespace Go.Proofs.Ytboccihcomaaoaa
open Go.RowKit Go.Lib Go.Sort
set_option linter.unusedVariables false

set_option maxHeartbeats 400000 in
theorem ofFn_any (S : Nat) (m i : Int) (a : Option Addr) (n cap : Nat) (W : World) (hS : S < W.heap.size) (c0 : W.cell? ⟨S, 0, none⟩ = some (.int .i64 m)) :
    Calls Try.prog 67 #[.agg #[.int .i64 i, .slice a n cap], .pointer (some ⟨S, 0, none⟩)] W fun e w' => e = .returned (.bool (decide (i = m))) ∧ Below W.heap.size W w' := by
  have e : decide (i = m) = (i == m) := by by_cases h : i = m <;> simp [h]
  rw [e]
  have c1 : (W.alloc (.cells #[.int .i64 i, .slice a n cap] 34)).cell? ⟨S, 0, none⟩ = some (.int .i64 m) := (cell_old W _ 0 hS).trans c0
  have hS2 : ¬ S = W.heap.size := by omega
  go_enter Try.func67, Try.ntmps67
  go_wp2
  go_ret
  exact ⟨rfl, (Below.refl _ _).alloc (Nat.le_refl _) _⟩

set_option maxHeartbeats 400000 in
theorem belowFn_any (S : Nat) (m i : Int) (a : Option Addr) (n cap : Nat) (W : World) (hS : S < W.heap.size) (c0 : W.cell? ⟨S, 0, none⟩ = some (.int .i64 m)) :
    Calls Try.prog 71 #[.agg #[.int .i64 i, .slice a n cap], .pointer (some ⟨S, 0, none⟩)] W fun e w' => e = .returned (.bool (decide (i < m))) ∧ Below W.heap.size W w' := by
  have c1 : (W.alloc (.cells #[.int .i64 i, .slice a n cap] 34)).cell? ⟨S, 0, none⟩ = some (.int .i64 m) := (cell_old W _ 0 hS).trans c0
  have hS2 : ¬ S = W.heap.size := by omega
  go_enter Try.func71, Try.ntmps71
  go_wp2
  go_ret
  exact ⟨rfl, (Below.refl _ _).alloc (Nat.le_refl _) _⟩

/-- Which is the first that meets p: below nought, if none. -/
def FirstAt (ls : List (List Ent)) (p : List Ent → Bool) (z : Int) : Prop := (z = -1 ∧ ls.findIdx p = ls.length) ∨ (ls.findIdx p < ls.length ∧ z = (ls.findIdx p : Nat))

set_option maxHeartbeats 400000 in
theorem firstOf_any (a : Option Addr) (n cap m : Nat) (ls : List (List Ent)) (w : World) (h : RawB w a (lvs ls)) (hn : ls.length = n) (hl : n ≤ 100000) :
    Calls Try.prog 52 #[.slice a n cap, .int .i64 m] w fun r w' => ∃ z : Int, r = .returned (.int .i64 z) ∧ FirstAt ls (ofLv m) z ∧ Below w.heap.size w w' := by
  obtain ⟨S, hS⟩ : ∃ S, w.heap.size = S := ⟨_, rfl⟩
  obtain ⟨u, hu⟩ : ∃ u, w.alloc (.cells #[.int .i64 m] 3) = u := ⟨_, rfl⟩
  have HU : Hid _ := hu
  have bu : Below w.heap.size w u := by rw [← hu]; exact (Below.refl _ _).alloc (Nat.le_refl _) _
  have su : S < u.heap.size := by rw [← hu, ← hS]; simp
  have cu : u.cell? ⟨S, 0, none⟩ = some (.int .i64 m) := by rw [← hu, ← hS]; exact cell_new w _ _ 0
  have ix := indexR_any 67 #[.pointer (some ⟨S, 0, none⟩)] (fun x => decide (x.1 = (m : Int))) a cap (lvs ls) u (h.below bu) (by rw [lvs_len]; omega) (enters_of Try.func67 (by kernel_rfl) rfl)
    (fun x r t W _ hW _ => ofFn_any S m x.1 r x.2.length t W (by have := hW.size; omega) ((hW.cell (p := ⟨S, 0, none⟩) su).trans cu))
  rw [lvs_find ls (ofLv m) (fun x => decide (x.1 = (m : Int))) (fun d => by
    unfold ofLv
    by_cases c : lv d = m
    · simp [c]
    · simp [c]; omega), lvs_len, hn] at ix
  have BU : Aside (Below w.heap.size w u) := bu
  have HN : Hid _ := hn
  have hmf : ∀ (fn : Fn) (first cap : Array Value) (w : World), (Instr.makeFunc fn first cap).run Try.prog w = .ok (.func fn first cap) w := fun _ _ _ _ => rfl
  clear hu bu cu h hn
  go_enter Try.func52, Try.ntmps52
  go_wp2_with fail
  rw [HU.out]
  refine ix.mono ?_
  rintro r w1 ⟨z, rfl, fi, b1⟩
  have FI : Aside (FirstAt ls (ofLv m) z) := by show (_ ∨ _); rw [HN.out]; exact fi
  have B1 : Aside (Below w.heap.size w w1) := BU.out.trans (b1.mono BU.out.size)
  clear ix fi b1
  go_wp2
  go_ret
  exact ⟨z, rfl, FI.out, B1.out⟩

set_option maxHeartbeats 400000 in
theorem firstBelow_any (a : Option Addr) (n cap m : Nat) (ls : List (List Ent)) (w : World) (h : RawB w a (lvs ls)) (hn : ls.length = n) (hl : n ≤ 100000) :
    Calls Try.prog 55 #[.slice a n cap, .int .i64 m] w fun r w' => r = .returned (.int .i64 (ls.findIdx (belowLv m) : Nat)) ∧ Below w.heap.size w w' := by
  obtain ⟨S, hS⟩ : ∃ S, w.heap.size = S := ⟨_, rfl⟩
  obtain ⟨u, hu⟩ : ∃ u, w.alloc (.cells #[.int .i64 m] 3) = u := ⟨_, rfl⟩
  have HU : Hid _ := hu
  have bu : Below w.heap.size w u := by rw [← hu]; exact (Below.refl _ _).alloc (Nat.le_refl _) _
  have su : S < u.heap.size := by rw [← hu, ← hS]; simp
  have cu : u.cell? ⟨S, 0, none⟩ = some (.int .i64 m) := by rw [← hu, ← hS]; exact cell_new w _ _ 0
  have ix := indexR_any 71 #[.pointer (some ⟨S, 0, none⟩)] (fun x => decide (x.1 < (m : Int))) a cap (lvs ls) u (h.below bu) (by rw [lvs_len]; omega) (enters_of Try.func71 (by kernel_rfl) rfl)
    (fun x r t W _ hW _ => belowFn_any S m x.1 r x.2.length t W (by have := hW.size; omega) ((hW.cell (p := ⟨S, 0, none⟩) su).trans cu))
  rw [lvs_find ls (belowLv m) (fun x => decide (x.1 < (m : Int))) (fun d => by
    unfold belowLv
    by_cases c : lv d < m
    · simp [c]
    · simp [c]), lvs_len, hn] at ix
  obtain ⟨K, hK⟩ : ∃ K, ls.findIdx (belowLv m) = K := ⟨_, rfl⟩
  rw [hK] at ix ⊢
  have BU : Aside (Below w.heap.size w u) := bu
  have hmf : ∀ (fn : Fn) (first cap : Array Value) (w : World), (Instr.makeFunc fn first cap).run Try.prog w = .ok (.func fn first cap) w := fun _ _ _ _ => rfl
  clear hu bu cu h hn hK
  go_enter Try.func55, Try.ntmps55
  go_wp2_with fail
  rw [HU.out]
  refine ix.mono ?_
  rintro r w1 ⟨z, rfl, fi, b1⟩
  have B1 : Aside (Below w.heap.size w w1) := BU.out.trans (b1.mono BU.out.size)
  clear ix b1
  rcases fi with ⟨rfl, rfl⟩ | ⟨hk, rfl⟩
  · go_wp2
    go_ret
    exact ⟨rfl, B1.out⟩
  · have k0 : ¬ (K : Int) < 0 := by omega
    go_wp2
    go_ret
    exact ⟨rfl, B1.out⟩

/-- A box beside a row set anew. -/
theorem RowB.box {w : World} {base n cap S : Nat} {a : Option Addr} {bs : List Bk} {x y : Value} (h : RowB 34 w base (.slice a n cap) bs) (hS : w.heap[S]? = some (.cells #[x, y] 34 (0, 0))) (ha : a ≠ some ⟨S, 0, none⟩) (x' y' : Value) :
    RowB 34 ((w.setCell ⟨S, 0, none⟩ x').setCell ⟨S, 1, none⟩ y') base (.slice a n cap) bs := by
  have g : w.grownBy ((w.setCell ⟨S, 0, none⟩ x').setCell ⟨S, 1, none⟩ y') (some S) := grown_trans (grown_set w S 0 _) (grown_set _ S 1 _)
  have kp : Kept (fun T => T = 34) w ((w.setCell ⟨S, 0, none⟩ x').setCell ⟨S, 1, none⟩ y') :=
    (Kept.set (S := fun T => T = 34) hS rfl x').trans (Kept.set (S := fun T => T = 34) (shr_set0 hS x') rfl y')
  refine ⟨h.row.kept g ?_, fun b hb => kp.own (by decide) (h.own b hb)⟩
  rcases h.row.2 with ⟨e, _⟩ | ⟨g', cap', cur, e, _⟩
  · rw [e]; exact .inl rfl
  · rw [e]
    injection e with e1
    refine .inr fun c => ha ?_
    simp only [Value.ownBlock, Option.some.injEq] at c
    rw [e1, c]
theorem kept_box {w : World} {S : Nat} {x y : Value} (hS : w.heap[S]? = some (.cells #[x, y] 34 (0, 0))) (x' y' : Value) : Kept (fun T => T = 34) w ((w.setCell ⟨S, 0, none⟩ x').setCell ⟨S, 1, none⟩ y') :=
  (Kept.set (S := fun T => T = 34) hS rfl x').trans (Kept.set (S := fun T => T = 34) (shr_set0 hS x') rfl y')

/-- What holds in the loop of laid. -/
structure LaidInv (w : World) (base S : Nat) (T : List (List Ent)) (Z : Nat) (a : Option Addr) (n cap : Nat) (bs : List Bk) (d : List Ent) (p : Option Addr) (q : Nat) (wr : World) : Prop where
  len : bs.length = n
  row : RowB 34 wr base (.slice a n cap) bs
  box : wr.heap[S]? = some (.cells #[.int .i64 (lv d), .slice p d.length q] 34 (0, 0))
  own : OwnE wr base (.slice p d.length q) d
  ne : a ≠ some ⟨S, 0, none⟩
  tgt : laidS (bs.map Bk.d) d = T
  sum : (bs.map Bk.d).flatten.length + d.length = Z
  grew : w.grownBy wr (Value.slice a n cap).ownBlock
theorem LaidInv.on {w : World} {base S : Nat} {T : List (List Ent)} {Z n cap : Nat} {a : Option Addr} {bs : List Bk} {d : List Ent} {p : Option Addr} {q : Nat} {wr v : World} (h : LaidInv w base S T Z a n cap bs d p q wr) (hv : Below wr.heap.size wr v) : LaidInv w base S T Z a n cap bs d p q v :=
  ⟨h.len, h.row.below hv, (hv.block S (lt_of_block h.box)).trans h.box, h.own.below hv, h.ne, h.tgt, h.sum, grown_trans h.grew (grown_of_below hv _)⟩
theorem map_erase (bs : List Bk) (j : Nat) : (bs.eraseIdx j).map Bk.d = (bs.map Bk.d).eraseIdx j := by rw [List.eraseIdx_eq_take_drop_succ, List.eraseIdx_eq_take_drop_succ, List.map_append, List.map_take, List.map_drop]
theorem ownB_slice (a : Option Addr) (n n' c c' : Nat) : (Value.slice a n c).ownBlock = (Value.slice a n' c').ownBlock := by cases a <;> rfl
/-- One block merged and gone. -/
theorem LaidInv.merge {w : World} {base S : Nat} {T : List (List Ent)} {Z n cap : Nat} {a : Option Addr} {bs : List Bk} {d E : List Ent} {p r2 : Option Addr} {q t2 j : Nat} {w2 W3 w4 : World} (h : LaidInv w base S T Z a n cap bs d p q w2) (hS : w.heap.size ≤ S) (hj : j < bs.length) (hf : (bs.map Bk.d).findIdx (ofLv (lv d)) = j) (he : sortE (bs[j].d ++ d) = E)
    (hW : W3 = (w2.setCell ⟨S, 0, none⟩ (.int .i64 (lv E))).setCell ⟨S, 1, none⟩ (.slice r2 E.length t2)) (oE : OwnE w2 base (.slice r2 E.length t2) E) (t : TurnsB W3 base (.slice a n cap) (.slice a (n - 1) cap) (bs.eraseIdx j) w4) :
    LaidInv w base S T Z a (n - 1) cap (bs.eraseIdx j) E r2 t2 w4 := by
  have b3 : W3.heap[S]? = some (.cells #[.int .i64 (lv E), .slice r2 E.length t2] 34 (0, 0)) := by rw [hW]; exact shr_set1 (shr_set0 h.box _) _
  have kb := kept_box h.box (.int .i64 (lv E)) (.slice r2 E.length t2)
  rw [← hW] at kb
  have r3 := h.row.box h.box h.ne (.int .i64 (lv E)) (.slice r2 E.length t2)
  rw [← hW] at r3
  have g3 : w2.grownBy W3 (some S) := by rw [hW]; exact grown_trans (grown_set w2 S 0 _) (grown_set _ S 1 _)
  have hr := r3.row
  have neS : some S ≠ (Value.slice a n cap).ownBlock := by
    intro e
    rcases hr.2 with ⟨h1, h0⟩ | ⟨g, cap', cur, h1, _⟩
    · rw [h1] at e; simp [Value.ownBlock] at e
    · rw [h1] at e
      simp only [Value.ownBlock, Option.some.injEq] at e
      injection h1 with e1
      exact h.ne (by rw [e1, e])
  have kt : Kept (fun T => T = 34) W3 w4 := kept_grown rfl hr t.2
  refine ⟨by rw [List.length_eraseIdx, if_pos hj, h.len], t.1, (t.2.block S (lt_of_block b3) neS).trans b3, kt.own (by decide) (kb.own (by decide) oE), h.ne, ?_, ?_, ?_⟩
  · rw [← h.tgt, map_erase, laidS_step (ls := bs.map Bk.d) (by simpa using hj) hf, ← he]
    simp
  · rw [← h.sum, ← he, sortE_len, List.length_append, map_erase]
    have := flat_split (ls := bs.map Bk.d) (k := j) (by simpa using hj)
    rw [this.length_eq, List.length_append]
    simp
    omega
  · rw [ownB_slice a (n - 1) n cap cap]
    refine ⟨t.2.os.trans (g3.os.trans h.grew.os), t.2.tape.trans (g3.tape.trans h.grew.tape), t.2.output.trans (g3.output.trans h.grew.output), Nat.le_trans h.grew.size (Nat.le_trans g3.size t.2.size), fun k hk hne => ?_⟩
    have k2 := h.grew.size
    have k3 := g3.size
    exact (t.2.block k (by omega) hne).trans ((g3.block k (by omega) (fun e => by injection e with e; omega)).trans (h.grew.block k hk hne))
/-- What laid gives. -/
def LaidIs (w : World) (base : Nat) (v0 : Value) (T : List (List Ent)) (r : Ending) (w' : World) : Prop := ∃ a n cap, r = .returned (.slice a n cap) ∧ Bls w' base a n cap T ∧ w.grownBy w' v0.ownBlock
theorem LaidInv.done {w : World} {base S : Nat} {T : List (List Ent)} {Z n cap : Nat} {a : Option Addr} {bs : List Bk} {d : List Ent} {p a8 : Option Addr} {q c8 : Nat} {wr w8 : World} (h : LaidInv w base S T Z a n cap bs d p q wr) (hf : (bs.map Bk.d).findIdx (ofLv (lv d)) = (bs.map Bk.d).length) (t : TurnsB wr base (.slice a n cap) (.slice a8 (n + 1) c8) (bs.take ((bs.map Bk.d).findIdx (belowLv (lv d))) ++ (⟨d, p, q⟩ : Bk) :: bs.drop ((bs.map Bk.d).findIdx (belowLv (lv d)))) w8) :
    Bls w8 base a8 (n + 1) c8 T ∧ w.grownBy w8 (Value.slice a n cap).ownBlock := by
  have hk := List.findIdx_le_length (xs := bs.map Bk.d) (p := belowLv (lv d))
  rw [List.length_map] at hk
  refine ⟨⟨_, ?_, ?_, t.1⟩, grown_trans h.grew t.2⟩
  · rw [← h.tgt, laidS_end hf]
    unfold putIn
    rw [List.map_append, List.map_cons, List.map_take, List.map_drop]
  · rw [List.length_append, List.length_cons, List.length_take, List.length_drop, ← h.len]
    omega
theorem LaidInv.count {w : World} {base S : Nat} {T : List (List Ent)} {Z n cap : Nat} {a : Option Addr} {bs : List Bk} {d : List Ent} {p : Option Addr} {q : Nat} {wr : World} (h : LaidInv w base S T Z a n cap bs d p q wr) {j : Nat} (hj : j < bs.length) : bs[j].d.length + d.length ≤ Z := by
  have := (flat_split (ls := bs.map Bk.d) (k := j) (by simpa using hj)).length_eq
  rw [List.length_append] at this
  simp only [List.getElem_map] at this
  have := h.sum
  omega
theorem row_apart {w : World} {base n cap S : Nat} {a : Option Addr} {bs : List Bk} (h : RowB 34 w base (.slice a n cap) bs) (hS : w.heap.size ≤ S) : a ≠ some ⟨S, 0, none⟩ := by
  intro e
  subst e
  have := World.ownsRow.lt h.row S rfl
  omega
end Go.Proofs.Ytboccihcomaaoaa
