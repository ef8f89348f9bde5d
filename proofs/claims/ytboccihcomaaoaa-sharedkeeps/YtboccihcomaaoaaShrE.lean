/- shared: copied. -/
import Derived.Test.YtboccihcomaaoaaShrW
namespace Go.Proofs.Ytboccihcomaaoaa
open Go.RowKit Go.Lib Go.Sort
set_option linter.unusedVariables false

/-- What holds at the head of the loop of copied: k lists are copied already. -/
structure CopyInv (w : World) (a : Option Addr) (n cap : Nat) (ls : List (List Ent)) (k : Nat) (cs : List Bk) (wr : World) : Prop where
  map : cs.map Bk.d = ls
  len : cs.length = n
  row : wr.ownsRow w.heap.size 34 2 (.slice a n cap) n (flatB cs)
  new : ∀ (i : Nat) (hi : i < cs.length), i < k → OwnE wr w.heap.size (.slice cs[i].p cs[i].d.length cs[i].q) cs[i].d
  old : ∀ (i : Nat) (hi : i < cs.length), k ≤ i → IsL w cs[i].p cs[i].q cs[i].d
  low : Below w.heap.size w wr
/-- What copied gives. -/
def CopiedB (w : World) (n : Nat) (ls : List (List Ent)) (r : Ending) (w' : World) : Prop := ∃ a cap, r = .returned (.slice a n cap) ∧ Bls w' w.heap.size a n cap ls ∧ Below w.heap.size w w'
theorem CopyInv.step {w : World} {g n cap k : Nat} {ls : List (List Ent)} {cs : List Bk} {wr w2 : World} {p : Option Addr} {q : Nat} (h : CopyInv w (some ⟨g, 0, none⟩) n cap ls k cs wr) (hk : k < cs.length) (b2 : Below wr.heap.size wr w2) (o : OwnE w2 wr.heap.size (.slice p cs[k].d.length q) cs[k].d) :
    CopyInv w (some ⟨g, 0, none⟩) n cap ls (k + 1) (cs.set k ⟨cs[k].d, p, q⟩) (w2.setCell ⟨g, k * 2 + 1, none⟩ (.slice p cs[k].d.length q)) := by
  have r2 := own_below h.row b2
  have lw := h.low.size
  have hg := World.ownsRow.lt r2 g rfl
  obtain ⟨gc, gcap, gcur, ge, _, gh, _⟩ : ∃ g' cap' cur, (Value.slice (some ⟨g, 0, none⟩) n cap) = .slice (some ⟨g', 0, none⟩) n cap' ∧ w.heap.size ≤ g' ∧ w2.heap[g']? = some (.cells cur 34 (0, 0)) ∧ True := by
    rcases r2.2 with ⟨e, _⟩ | ⟨g', cap', cur, e, h1, h2, _⟩
    · cases e
    · exact ⟨g', cap', cur, e, h1, h2, trivial⟩
  injection ge with ge1 _ _
  injection ge1 with ge1
  injection ge1 with ge1
  subst ge1
  have kp : Kept (fun T => T = 34) w2 (w2.setCell ⟨g, k * 2 + 1, none⟩ (.slice p cs[k].d.length q)) := Kept.set (S := fun T => T = 34) gh rfl _
  refine ⟨?_, by rw [List.length_set]; exact h.len, row_set r2 k ⟨cs[k].d, p, q⟩ hk rfl h.len, fun i hi hik => ?_, fun i hi hik => ?_, (h.low.trans (b2.mono lw)).setCell hg.1 _⟩
  · rw [← h.map]
    apply List.ext_getElem
    · simp
    · intro i h1 h2
      simp only [List.getElem_map, List.getElem_set]
      split
      · next e => subst e; rfl
      · rfl
  · rw [List.length_set] at hi
    by_cases e : k = i
    · subst e
      simp only [List.getElem_set_self]
      exact kp.own (by decide) (o.low lw)
    · simp only [List.getElem_set_ne e]
      exact kp.own (by decide) ((h.new i hi (by omega)).below b2)
  · rw [List.length_set] at hi
    simp only [List.getElem_set_ne (show k ≠ i by omega)]
    exact h.old i hi (by omega)

set_option maxHeartbeats 2000000 in
set_option maxRecDepth 100000 in
theorem copied_any (a : Option Addr) (n cap : Nat) (ls : List (List Ent)) (w : World) (h : RawB w a (lvs ls)) (hn : ls.length = n) (hl : n ≤ 100000) (hd : ∀ d ∈ ls, d.length ≤ 1000000) :
    Calls Try.prog 29 #[.slice a n cap] w (CopiedB w n ls) := by
  obtain ⟨bs, hb1, hb2⟩ := h.bks
  have hbl : bs.length = n := by rw [← hn, ← hb1, List.length_map]
  have cl := cloneB_any a n cap bs w hbl hl (fun i hi => (hb2 i hi).2)
  have OLD : Aside (∀ (i : Nat) (hi : i < bs.length), IsL w bs[i].p bs[i].q bs[i].d) := fun i hi => (hb2 i hi).1
  have MAP : Hid (bs.map Bk.d = ls) := hb1
  have LEN : Hid (bs.length = n) := hbl
  have HD : Aside (∀ d ∈ ls, d.length ≤ 1000000) := hd
  clear h hb1 hb2 hbl hd
  go_enter Try.func29, Try.ntmps29
  go_wp2_with fail
  refine cl.mono ?_
  rintro r w1 ⟨a1, c1, rfl, o1, b1⟩
  have INV : Aside (CopyInv w a1 n c1 ls 0 bs w1) := ⟨MAP.out, LEN.out, o1, fun i hi h => absurd h (by omega), fun i hi _ => OLD.out i hi, b1⟩
  clear o1 b1 cl OLD
  go_wp2
  go_loopg [10] n (fun kx s10 wr => ∃ (k : Nat) (cs : List Bk), s10 = .int .i64 k ∧ k ≤ n ∧ n - k ≤ kx ∧ Aside (CopyInv w a1 n c1 ls k cs wr))
  case atStart => exact ⟨0, bs, rfl, by omega, by omega, INV⟩
  case round =>
    clear INV MAP LEN
    obtain ⟨k, cs, rfl, hk, hkx, I⟩ := hrel
    by_cases hlt : k < n
    · have hz : (k : Int) < (n : Int) := by omega
      have hkc : k < cs.length := by rw [I.out.len]; exact hlt
      obtain ⟨g, ge, gb, gh⟩ : ∃ g, a1 = some ⟨g, 0, none⟩ ∧ w.heap.size ≤ g ∧ ∃ cur, wr.heap[g]? = some (.cells cur 34 (0, 0)) := by
        rcases I.out.row.2 with ⟨e, e2⟩ | ⟨g', cap', cur, e, h1, h2, _⟩
        · omega
        · injection e with e1
          exact ⟨g', e1, h1, cur, h2⟩
      subst ge
      obtain ⟨cur, gh⟩ := gh
      have gs : g < wr.heap.size := lt_of_block gh
      obtain ⟨f1, f2⟩ := flatB_at cs k cs[k] (List.getElem?_eq_getElem hkc)
      have rl : k * 2 + 1 < n * 2 := by omega
      have y0 : wr.cell? ⟨g, k * 2, none⟩ = some (.int .i64 (lv cs[k].d)) := by rw [World.ownsRow.cellAt I.out.row (k * 2) (by omega), f1]
      have y1 : wr.cell? ⟨g, k * 2 + 1, none⟩ = some (.slice cs[k].p cs[k].d.length cs[k].q) := by rw [World.ownsRow.cellAt I.out.row (k * 2 + 1) (by omega), f2]
      obtain ⟨x, hx⟩ : ∃ x, cs[k] = x := ⟨_, rfl⟩
      have HX : Hid _ := hx
      rw [hx] at y0 y1
      have xl : x.d.length ≤ 1000000 := HD.out x.d (by rw [← I.out.map, ← hx]; exact List.mem_map.2 ⟨_, List.getElem_mem hkc, rfl⟩)
      obtain ⟨m, hm⟩ : ∃ m, lv x.d = m := ⟨_, rfl⟩
      obtain ⟨K, hK⟩ : ∃ m, x.d.length = m := ⟨_, rfl⟩
      obtain ⟨xp, hxp⟩ : ∃ m, x.p = m := ⟨_, rfl⟩
      obtain ⟨xq, hxq⟩ : ∃ m, x.q = m := ⟨_, rfl⟩
      have HK : Hid _ := hK
      obtain ⟨R, hR⟩ : ∃ R, wr.heap.size = R := ⟨_, rfl⟩
      obtain ⟨u, hu⟩ : ∃ u, wr.alloc (.cells #[.int .i64 m, .slice xp K xq] 34) = u := ⟨_, rfl⟩
      have HU : Hid _ := hu
      have bu : Below wr.heap.size wr u := by rw [← hu]; exact (Below.refl _ _).alloc (Nat.le_refl _) _
      have xL : IsL w x.p x.q x.d := by rw [← hx]; exact I.out.old k hkc (Nat.le_refl _)
      have cl := clone_any xp xq x.d u (by rw [← hxp, ← hxq]; exact xL.below (I.out.low.trans (bu.mono I.out.low.size))) xl
      rw [hm] at y0
      rw [hK, hxp, hxq] at y1
      rw [hK] at cl
      have gR : g < R := by omega
      have ngR : ¬ g = R := by omega
      have BU : Aside (Below wr.heap.size wr u) := bu
      clear hx hm hK hxp hxq hu bu xL xl f1 f2
      go_wp2_with fail
      rw [HU.out]
      refine cl.mono ?_
      rintro r w2 ⟨a2, c2, rfl, o2, b2⟩
      rw [HK.out] at o2 ⊢
      have bw : Below wr.heap.size wr w2 := BU.out.trans (b2.mono BU.out.size)
      have st := I.out.step hkc bw (p := a2) (q := c2) (by rw [HX.out, HK.out]; exact o2.low BU.out.size)
      rw [HX.out, HK.out] at st
      have I2 : Aside (CopyInv w (some ⟨g, 0, none⟩) n c1 ls (k + 1) (cs.set k ⟨x.d, a2, c2⟩) (w2.setCell ⟨g, k * 2 + 1, none⟩ (.slice a2 K c2))) := st
      have y2 : w2.cell? ⟨g, k * 2 + 1, none⟩ = some (.slice xp K xq) := (bw.cell (p := ⟨g, k * 2 + 1, none⟩) gs).trans y1
      have g2 : w2.heap[g]? = some (.cells cur 34 (0, 0)) := (bw.block g gs).trans gh
      have fz : w2.frozen? ⟨g, k * 2 + 1, none⟩ = false := by simp [World.frozen?, g2]
      clear st o2 b2 cl y0 y1 I
      go_wp2
      go_roundg (n - (k + 1))
      case measure => omega
      case rel => exact ⟨k + 1, _, by go_num, by omega, Nat.le_refl _, I2⟩
    · have hz : ¬ (k : Int) < (n : Int) := by omega
      have hkn : k = n := by omega
      have FIN : Aside (Bls wr w.heap.size a1 n c1 ls) := ⟨cs, I.out.map, I.out.len, by have := I.out.row; rw [← I.out.len] at this ⊢; exact this, fun b hb => by
        obtain ⟨i, hi, rfl⟩ := List.getElem_of_mem hb
        exact I.out.new i hi (by have := I.out.len; omega)⟩
      have LOW : Aside (Below w.heap.size w wr) := I.out.low
      clear I
      go_wp2
      go_ret
      exact ⟨a1, c1, rfl, FIN.out, LOW.out⟩
end Go.Proofs.Ytboccihcomaaoaa
