/- The document's Add: contract. -/
import Derived.Test.YthpdnlokjhafeaaDrW
namespace Go.Proofs.Ythpdnlokjhafeaa
open Go.RowKit Go.Lib
set_option linter.unusedVariables false
variable {w : World} {Y : Nat → Prop} {F : Nat} {R : List Rw} {E : Rel} {a : Option Addr} {cap : Nat} {d : List Int}
theorem ri_add {R : List Rw} (h : RI E R) {id : Int} {v : Value} {r : List Int} {K : Nat} (hK : K ≤ R.length) (lo : ∀ s ∈ R.take K, s.id < id) (hi : ∀ s ∈ R.drop K, id < s.id) (ur : Up r) (nr : r ≠ []) (mr : ∀ x, x ∈ r ↔ x ∈ d) :
    RI (fun q j => E q j ∨ (j = id ∧ q ∈ d)) (R.take K ++ [⟨id, v, r⟩] ++ R.drop K) := by
  have split : ∀ s, s ∈ R ↔ s ∈ R.take K ∨ s ∈ R.drop K := fun s => by rw [← List.mem_append, List.take_append_drop]
  refine ⟨?_, fun s hs => ?_, fun q j => ?_⟩
  · refine List.pairwise_append.2 ⟨List.pairwise_append.2 ⟨h.up.sublist (List.take_sublist _ _), by simp, fun s hs t ht => ?_⟩, h.up.sublist (List.drop_sublist _ _), fun s hs t ht => ?_⟩
    · simp at ht; rw [ht]; exact lo s hs
    · rcases List.mem_append.1 hs with hs | hs
      · have := lo s hs; have := hi t ht; omega
      · simp at hs; rw [hs]; exact hi t ht
  · rw [List.append_assoc, List.mem_append, List.mem_append, List.mem_singleton] at hs
    rcases hs with hs | hs | hs
    · exact h.ps s ((split s).2 (.inl hs))
    · rw [hs]; exact ⟨ur, nr⟩
    · exact h.ps s ((split s).2 (.inr hs))
  · rw [h.e]
    constructor
    · rintro (⟨s, hs, e, hq⟩ | ⟨e, hq⟩)
      · refine ⟨s, ?_, e, hq⟩
        rw [List.append_assoc, List.mem_append, List.mem_append]
        rcases (split s).1 hs with hs | hs
        · exact .inl hs
        · exact .inr (.inr hs)
      · exact ⟨⟨id, v, r⟩, by simp, e.symm, (mr q).2 hq⟩
    · rintro ⟨s, hs, e, hq⟩
      rw [List.append_assoc, List.mem_append, List.mem_append, List.mem_singleton] at hs
      rcases hs with hs | hs | hs
      · exact .inl ⟨s, (split s).2 (.inl hs), e, hq⟩
      · subst hs; exact .inr ⟨e.symm, (mr q).1 hq⟩
      · exact .inl ⟨s, (split s).2 (.inr hs), e, hq⟩
theorem add_fin {W2 z3 : World} {v3 : Value} {id : Int} {ar : Option Addr} {L cr K NR : Nat} {r : List Int} {ha : Option Addr} {hn hc : Nat} (RW : RD W2 Y F R) (II : RI E R) (BW : Below w.heap.size w W2) (b3 : Below W2.heap.size W2 z3) (hcF : W2.cell? ⟨F, 0, none⟩ = some (.slice ha hn hc)) (FF : F < w.heap.size)
    (OS : OwnI W2 w.heap.size (.slice ar L cr) r ∧ r ≠ [] ∧ r.length = L) (UR : Up r) (MR : ∀ x, x ∈ r ↔ x ∈ d) (nE : ∀ q, ¬ E q id) (hK : K ≤ R.length) (hlo : ∀ s ∈ R.take K, s.id < id) (hhi : ∀ s ∈ R.drop K, id < s.id) (hlR : (R.drop K).length = NR)
    (o3 : z3.ownsRow W2.drew.heap.size 55 2 v3 (K + 1 + NR) (fl (R.take K) ++ [.int .i64 id, .slice ar L cr] ++ fl (R.drop K))) :
    ∃ g c, v3 = .slice (some ⟨g, 0, none⟩) (K + 1 + NR) c ∧ (z3.cell? ⟨F, 0, none⟩ = some (.slice ha hn hc) ∧ z3.frozen? ⟨F, 0, none⟩ = false) ∧ (∃ R' Y', RD (z3.setCell ⟨F, 0, none⟩ (.slice (some ⟨g, 0, none⟩) (K + 1 + NR) c)) Y' F R' ∧ RI (fun q j => E q j ∨ (j = id ∧ q ∈ d)) R' ∧ R'.length ≤ R.length + 1 ∧ Fr (fun k => k = F) w (z3.setCell ⟨F, 0, none⟩ (.slice (some ⟨g, 0, none⟩) (K + 1 + NR) c)) ∧ ∀ k, Y' k → Y k ∨ (w.heap.size ≤ k ∧ k < (z3.setCell ⟨F, 0, none⟩ (.slice (some ⟨g, 0, none⟩) (K + 1 + NR) c)).heap.size)) := by
  obtain ⟨OS, nr, lr⟩ := OS
  have szW := BW.size
  have sz3 := b3.size
  have FW : F < W2.heap.size := by omega
  obtain ⟨R', hR'⟩ : ∃ R', R.take K ++ [(⟨id, .slice ar L cr, r⟩ : Rw)] ++ R.drop K = R' := ⟨_, rfl⟩
  have el : R'.length = K + 1 + NR := by rw [← hR', ← hlR]; simp; omega
  have o3' : OwnR z3 W2.heap.size v3 R' := by
    unfold OwnR
    rw [el, ← hR', fl_append, fl_append]
    exact o3
  obtain ⟨a3, c3, e3, sh3⟩ := o3'.shape
  obtain ⟨g, rfl⟩ : ∃ g, a3 = some ⟨g, 0, none⟩ := by
    rcases sh3 with ⟨_, _, h⟩ | h
    · rw [h, List.length_nil] at el; omega
    · exact h
  rw [el] at e3
  subst e3
  have hd3 : ∃ a cap, z3.heap[F]? = some (.cells #[.slice a R.length cap] 37 (0, 0)) := by
    obtain ⟨a, cap, e, _⟩ := RW.head
    exact ⟨a, cap, (b3.block F FW).trans e⟩
  obtain ⟨ah, ch, eh⟩ := hd3
  have gF : g ≠ F := fun e => by have := (o3'.rowLt (k := g) rfl).1; omega
  have FSt : Fr (fun k => k = F) z3 (z3.setCell ⟨F, 0, none⟩ (.slice (some ⟨g, 0, none⟩) (K + 1 + NR) c3)) := Fr.setCell _ _ _ _ _ rfl
  have F2 : Fr (fun k => k = F) w (z3.setCell ⟨F, 0, none⟩ (.slice (some ⟨g, 0, none⟩) (K + 1 + NR) c3)) := (Fr.below (BW.trans (b3.mono szW))).trans FSt (fun j hj => .inl hj)
  have F3 : Fr (fun k => k = F) W2 (z3.setCell ⟨F, 0, none⟩ (.slice (some ⟨g, 0, none⟩) (K + 1 + NR) c3)) := (Fr.below b3).trans FSt (fun j hj => .inl hj)
  have sz4 := F2.size
  have sz5 := FSt.size
  refine ⟨g, c3, rfl, ⟨by rw [← hcF]; exact b3.cell (p := ⟨F, 0, none⟩) FW, frozen_of_row z3 F 0 _ _ eh⟩, R', fun k => Y k ∨ (w.heap.size ≤ k ∧ k < (z3.setCell ⟨F, 0, none⟩ (.slice (some ⟨g, 0, none⟩) (K + 1 + NR) c3)).heap.size), ⟨?_, fun s hs => ?_, fun hy => ?_⟩, by rw [← hR']; exact ri_add II hK hlo hhi UR nr MR, ?_, F2, fun k hk => hk⟩
  · have o4 : OwnR (z3.setCell ⟨F, 0, none⟩ (.slice (some ⟨g, 0, none⟩) (K + 1 + NR) c3)) W2.heap.size (.slice (some ⟨g, 0, none⟩) (K + 1 + NR) c3) R' := o3'.fr FSt (fun k hk e => by injection hk with hk; exact gF (by rw [← e]; exact hk))
    obtain ⟨a4, c4, e4, q4⟩ := o4.isR (Y := fun k => Y k ∨ (w.heap.size ≤ k ∧ k < (z3.setCell ⟨F, 0, none⟩ (.slice (some ⟨g, 0, none⟩) (K + 1 + NR) c3)).heap.size)) (fun k hk => .inr (by have := o4.rowLt hk; omega))
    injection e4 with e41 e42 e43
    subst e41 e43
    refine ⟨_, c3, ?_, q4, .inr ⟨g, rfl⟩⟩
    rw [el]
    have := heap_setCell_same z3 F 0 #[.slice ah R.length ch] 37 (.slice (some ⟨g, 0, none⟩) (K + 1 + NR) c3) eh
    simpa using this
  · rw [← hR', List.append_assoc, List.mem_append, List.mem_append, List.mem_singleton] at hs
    have old : ∀ s ∈ R, Sl (z3.setCell ⟨F, 0, none⟩ (.slice (some ⟨g, 0, none⟩) (K + 1 + NR) c3)) (fun k => Y k ∨ (w.heap.size ≤ k ∧ k < (z3.setCell ⟨F, 0, none⟩ (.slice (some ⟨g, 0, none⟩) (K + 1 + NR) c3)).heap.size)) s.v s.ps := fun s hs => ((RW.pre s hs).fr F3 (fun k hk e => RW.yf (by rw [← e]; exact hk))).mono (fun k hk => .inl hk)
    rcases hs with hs | hs | hs
    · exact old s (List.mem_of_mem_take hs)
    · subst hs
      have oo : OwnI (z3.setCell ⟨F, 0, none⟩ (.slice (some ⟨g, 0, none⟩) (K + 1 + NR) c3)) w.heap.size (.slice ar L cr) r := OS.fr F3 (fun k hk e => by have := (OS.rowLt hk).1; omega)
      exact oo.sl (fun k hk => .inr (by have := oo.rowLt hk; omega))
    · exact old s (List.mem_of_mem_drop hs)
  · rcases hy with hy | hy
    · exact RW.yf hy
    · omega
  · rw [el, ← hlR]; simp; omega
/-- What Add does. -/
def AddIs (w : World) (Y : Nat → Prop) (F : Nat) (R : List Rw) (E : Rel) (id : Int) (d : List Int) (e : Ending) (w' : World) : Prop :=
    (mayB id d = false ∧ e = .returned (.tuple #[.int .i64 0, .int .i64 1]) ∧ w' = w) ∨ (mayB id d = true ∧ (∃ q, E q id) ∧ e = .returned (.tuple #[.int .i64 0, .int .i64 9]) ∧ w' = w) ∨
    (mayB id d = true ∧ (∀ q, ¬ E q id) ∧ ∃ r R' Y', e = .returned (.tuple #[.int .i64 (r.length : Nat), .int .i64 0]) ∧ Up r ∧ (∀ x, x ∈ r ↔ x ∈ d) ∧ RD w' Y' F R' ∧ RI (fun q j => E q j ∨ (j = id ∧ q ∈ d)) R' ∧ R'.length ≤ R.length + 1 ∧ Fr (fun k => k = F) w w' ∧ ∀ k, Y' k → Y k ∨ (w.heap.size ≤ k ∧ k < w'.heap.size))
theorem AddIs.arg {id : Int} (h : mayB id d = false) : AddIs w Y F R E id d (.returned (.tuple #[.int .i64 0, .int .i64 1])) w := .inl ⟨h, rfl, rfl⟩
theorem AddIs.exist {id : Int} (h : mayB id d = true) (hE : ∃ q, E q id) : AddIs w Y F R E id d (.returned (.tuple #[.int .i64 0, .int .i64 9])) w := .inr (.inl ⟨h, hE, rfl, rfl⟩)
theorem AddIs.ok {id : Int} {w' : World} {r : List Int} {L : Nat} (h : mayB id d = true) (hE : ∀ q, ¬ E q id) (hL : r.length = L) (ur : Up r) (mr : ∀ x, x ∈ r ↔ x ∈ d)
    (hh : ∃ R' Y', RD w' Y' F R' ∧ RI (fun q j => E q j ∨ (j = id ∧ q ∈ d)) R' ∧ R'.length ≤ R.length + 1 ∧ Fr (fun k => k = F) w w' ∧ ∀ k, Y' k → Y k ∨ (w.heap.size ≤ k ∧ k < w'.heap.size)) : AddIs w Y F R E id d (.returned (.tuple #[.int .i64 L, .int .i64 0])) w' := by
  obtain ⟨R', Y', q1, q2, q3, q4, q5⟩ := hh
  exact .inr (.inr ⟨h, hE, r, R', Y', by rw [hL], ur, mr, q1, q2, q3, q4, q5⟩)
set_option maxHeartbeats 8000000 in
set_option maxRecDepth 100000 in
theorem vadd_any (h : RD w Y F R) (I : RI E R) (hR : R.length ≤ 10000) (q : IsI w a cap d) (hl : d.length ≤ 5000) (id : Int) : Calls Try.prog 15 #[.pointer (some ⟨F, 0, none⟩), .int .i64 id, .slice a d.length cap] w fun e w' =>
    AddIs w Y F R E id d e w' := by
  have ql := q.len
  have mb := mayB_iff id d
  obtain ⟨b, hb⟩ : ∃ b, mayB id d = b := ⟨_, rfl⟩
  have HB : Aside (mayB id d = b) := hb
  rw [hb] at mb
  obtain ⟨n, hn⟩ : ∃ n, d.length = n := ⟨_, rfl⟩
  have VR := vrising_any q hl
  rw [hn] at ql hl VR ⊢
  obtain ⟨m, hm⟩ : ∃ m, R.length = m := ⟨_, rfl⟩
  have FF : Aside (F < w.heap.size) := h.lt
  have H : Aside (IsI w a cap d) := q
  have HR : Aside (RD w Y F R) := h
  have II : Aside (RI E R) := I
  have MB : Aside (b = true ↔ 1 ≤ id ∧ ∀ p ∈ d, 1 ≤ p ∧ p < id) := mb
  rw [hm] at hR
  clear h q I mb hb
  by_cases c0 : id < 1
  · obtain rfl : b = false := by
      cases b with
      | false => rfl
      | true => have := (MB.out.1 rfl).1; omega
    clear VR
    go_enter Try.func15, Try.ntmps15
    go_wp2_with fail
    exact bodyPost_ret (v := .tuple #[.int .i64 0, .int .i64 1]) (by simp [results, Try.results15, go_sem]) rfl (AddIs.arg HB.out)
  · go_enter Try.func15, Try.ntmps15
    go_wp2_with fail
    go_loopw [8] (fun s8 wr => wr = w ∧ ∃ I : Nat, I ≤ n ∧ s8 = .int .i64 I ∧ ∀ j, j < I → 1 ≤ d.getD j 0 ∧ d.getD j 0 < id) (fun i _ => n - (intOf i).toNat)
    case atStart => exact ⟨rfl, 0, by omega, rfl, fun j hj => by omega⟩
    case round =>
      obtain ⟨rfl, I, hI, rfl, hall⟩ := hrel
      by_cases c : I < n
      · obtain ⟨g, off, rfl, _, hc⟩ := H.out.at (j := I) (by omega)
        have HI : Aside (∀ j, j < I → 1 ≤ d.getD j 0 ∧ d.getD j 0 < id) := hall
        obtain ⟨x, hx⟩ : ∃ x, d.getD I 0 = x := ⟨_, rfl⟩
        rw [hx] at hc
        have HX : Hid _ := hx
        clear hall hx VR
        by_cases c1 : x < 1
        · obtain rfl : b = false := by
            cases b with
            | false => rfl
            | true => have := ((MB.out.1 rfl).2 x (by rw [← HX.out]; exact getD_mem (by omega))).1; omega
          go_wp2_with fail
          exact bodyPost_ret (v := .tuple #[.int .i64 0, .int .i64 1]) (by simp [results, Try.results15, go_sem]) rfl (AddIs.arg HB.out)
        · by_cases c2 : id ≤ x
          · obtain rfl : b = false := by
              cases b with
              | false => rfl
              | true => have := ((MB.out.1 rfl).2 x (by rw [← HX.out]; exact getD_mem (by omega))).2; omega
            go_wp2_with fail
            exact bodyPost_ret (v := .tuple #[.int .i64 0, .int .i64 1]) (by simp [results, Try.results15, go_sem]) rfl (AddIs.arg HB.out)
          · go_wp2_with fail
            go_roundw
            case rel =>
              refine ⟨by trivial, I + 1, by omega, by go_num, fun j hj => ?_⟩
              by_cases e : j = I
              · subst e; rw [HX.out]; omega
              · exact HI.out j (by omega)
            case measure => simp [intOf]; omega
      · obtain rfl : b = true := MB.out.2 ⟨by omega, fun p hp => by
          obtain ⟨j, hj, rfl⟩ := mem_getD hp
          exact hall j (by omega)⟩
        have cI : ¬ I < n := c
        clear hall MB c
        obtain ⟨ra, rc, hcW, qR, shp⟩ := HR.out.cellS
        rw [hm] at hcW
        have QR : Aside (IsR wr Y ra rc R) := qR
        have SHP : Aside ((ra = none ∧ rc = 0 ∧ R = []) ∨ ∃ g, ra = some ⟨g, 0, none⟩) := shp
        clear qR shp
        go_wp2_with fail
        go_loopw [9] (fun s9 w9 => w9 = wr ∧ ∃ K : Nat, K ≤ m ∧ s9 = .int .i64 K ∧ ∀ s ∈ R.take K, s.id < id) (fun i _ => m - (intOf i).toNat)
        case atStart => exact ⟨rfl, 0, by omega, rfl, fun r hr => by simp at hr⟩
        case round =>
          obtain ⟨rfl, K, hKm, rfl, lo⟩ := hrel
          have hK : K ≤ R.length := by omega
          have hlo : Aside (∀ s ∈ R.take K, s.id < id) := lo
          clear lo
          by_cases cK : K < m
          · obtain ⟨bR, oR, s, eR, es, hs, _, h1, h2⟩ := QR.out.at (j := K) (by omega)
            obtain ⟨x, hx⟩ : ∃ x, s.id = x := ⟨_, rfl⟩
            rw [hx] at h1
            have HX : Hid _ := hx
            have HE : Aside (R[K]? = some s ∧ s ∈ R) := ⟨es, hs⟩
            clear hx es hs h2
            by_cases c1 : x < id
            · subst eR
              clear VR
              go_wp2_with fail
              go_roundw
              case rel =>
                refine ⟨by trivial, K + 1, by omega, by go_num, fun t ht => ?_⟩
                rw [List.take_add_one, HE.out.1] at ht
                rcases List.mem_append.1 ht with ht | ht
                · exact hlo.out t ht
                · simp at ht; rw [ht, HX.out]; exact c1
              case measure => simp [intOf]; omega
            · by_cases c2 : x = id
              · subst c2
                subst eR
                have hE : Aside (∃ q, E q x) := by
                  obtain ⟨p, r, e⟩ := List.exists_cons_of_ne_nil (II.out.ps s HE.out.2).2
                  exact ⟨p, by rw [← HX.out]; exact (II.out.waits HE.out.2 p).2 (by rw [e]; simp)⟩
                clear VR
                go_wp2_with fail
                exact bodyPost_ret (v := .tuple #[.int .i64 0, .int .i64 9]) (by simp [results, Try.results15, go_sem]) rfl (AddIs.exist HB.out hE.out)
              · have c2' : (x == id) = false := by simp [c2]
                have hhi : Aside (∀ t ∈ R.drop K, id < t.id) := fun t ht => by
                  obtain ⟨j, hj, rfl⟩ := List.getElem_of_mem ht
                  have hK' : K < R.length := by omega
                  have e0 : R[K] = s := by have := HE.out.1; rw [List.getElem?_eq_getElem hK'] at this; injection this
                  rw [List.getElem_drop]
                  by_cases cj : j = 0
                  · subst cj
                    simp only [Nat.add_zero]
                    rw [e0, HX.out]; omega
                  · have := List.pairwise_iff_getElem.1 II.out.up K (K + j) hK' (by simp at hj; omega) (by omega)
                    rw [e0, HX.out] at this
                    omega
                have nE : Aside (∀ q, ¬ E q id) := fun q hq => by
                  obtain ⟨t, ht, e, _⟩ := (II.out.e _ _).1 hq
                  rw [← List.take_append_drop K R] at ht
                  rcases List.mem_append.1 ht with ht | ht
                  · have := hlo.out t ht; omega
                  · have := hhi.out t ht; omega
                subst eR
                go_wp2_with fail
                refine VR.mono ?_
                rintro e W2 ⟨v2, r, rfl, o2, ur, mr, lr, b2⟩
                obtain ⟨ar, cr, e2, _⟩ := o2.isI
                obtain ⟨L, hL⟩ : ∃ L, r.length = L := ⟨_, rfl⟩
                rw [hL] at e2 lr
                subst e2
                have UR : Aside (Up r) := ur
                have MR : Aside (∀ x, x ∈ r ↔ x ∈ d) := mr
                have BW : Aside (Below wr.heap.size wr W2) := b2
                have HL : Hid (r.length = L) := hL
                have RW : RD W2 Y F R := HR.out.below b2
                clear VR ur mr
                by_cases cL : L = 0
                · have nil : d = [] := List.eq_nil_iff_forall_not_mem.2 (fun x hx => by
                    have h1 := (MR.out x).2 hx
                    have h2 : r = [] := List.length_eq_zero_iff.1 (by rw [HL.out]; exact cL)
                    rw [h2] at h1
                    simp at h1)
                  have FIN : Aside (∃ R' Y', RD W2 Y' F R' ∧ RI (fun q j => E q j ∨ (j = id ∧ q ∈ d)) R' ∧ R'.length ≤ R.length + 1 ∧ Fr (fun k => k = F) wr W2 ∧ ∀ k, Y' k → Y k ∨ (wr.heap.size ≤ k ∧ k < W2.heap.size)) := by
                    refine ⟨R, Y, RW, ?_, by omega, Fr.below b2, fun k hk => .inl hk⟩
                    have := II.out
                    refine ⟨this.up, this.ps, fun q j => ?_⟩
                    rw [← this.e, nil]
                    simp
                  clear o2 b2 RW nil hL
                  subst cL
                  go_wp2_with fail
                  exact bodyPost_ret (v := .tuple #[.int .i64 ((0 : Nat) : Int), .int .i64 0]) (by simp [results, Try.results15, go_sem]) rfl (AddIs.ok HB.out nE.out HL.out UR.out MR.out FIN.out)
                · have OS : Aside (OwnI W2 wr.heap.size (.slice ar L cr) r ∧ r ≠ [] ∧ r.length = L) := ⟨o2, fun e => cL (by rw [← HL.out, e]; rfl), HL.out⟩
                  have Lpos : 0 < L := by omega
                  have hcF : W2.cell? ⟨F, 0, none⟩ = some (.slice (some ⟨bR, oR, none⟩) m rc) := by rw [← hcW]; exact b2.cell (p := ⟨F, 0, none⟩) FF.out
                  have QI : IsR W2 Y (some ⟨bR, oR, none⟩) rc R := QR.out.fr (Fr.below (X := fun _ => False) b2) (fun _ _ h => h)
                  have rbig : rc ≤ 9223372036854775807 := by have := QI.big; unfold maxLen at this; omega
                  have rle : m ≤ rc := by have := QI.le; omega
                  clear o2 b2
                  have cle : K ≤ rc := by omega
                  have cne : ¬ rc = K := by omega
                  obtain ⟨t, -⟩ := tyR
                  have OP := QI.take K
                  have OR := QI.drop K (by omega)
                  rw [if_neg (by omega), Option.map_some, Addr.add_lit] at OR
                  have one : ∀ r ∈ R, r.v.oneCell' = true := fun r hr => (RW.pre r hr).one
                  have hlP : (R.take K).length = K := by simp <;> omega
                  have hlR : (R.drop K).length = (m - K) := by simp <;> omega
                  have rP := OP.rd (fun r hr => one r (List.mem_of_mem_take hr))
                  have rR := OR.rd (fun r hr => one r (List.mem_of_mem_drop hr))
                  rw [hlP] at rP
                  rw [hlR] at rR
                  have bZ : Below W2.heap.size W2 W2.drew := (Below.refl _ _).drew
                  have fin : ∀ (z3 : World) (v3 : Value), z3.ownsRow W2.drew.heap.size 55 2 v3 (K + 1 + (m - K)) (fl (R.take K) ++ [.int .i64 id, .slice ar L cr] ++ fl (R.drop K)) → Below W2.drew.heap.size W2.drew z3 →
                      ∃ g c, v3 = .slice (some ⟨g, 0, none⟩) (K + 1 + (m - K)) c ∧ (z3.cell? ⟨F, 0, none⟩ = some (.slice (some ⟨bR, oR, none⟩) m rc) ∧ z3.frozen? ⟨F, 0, none⟩ = false) ∧ (∃ R' Y', RD (z3.setCell ⟨F, 0, none⟩ (.slice (some ⟨g, 0, none⟩) (K + 1 + (m - K)) c)) Y' F R' ∧ RI (fun q j => E q j ∨ (j = id ∧ q ∈ d)) R' ∧ R'.length ≤ R.length + 1 ∧ Fr (fun k => k = F) wr (z3.setCell ⟨F, 0, none⟩ (.slice (some ⟨g, 0, none⟩) (K + 1 + (m - K)) c)) ∧ ∀ k, Y' k → Y k ∨ (wr.heap.size ≤ k ∧ k < (z3.setCell ⟨F, 0, none⟩ (.slice (some ⟨g, 0, none⟩) (K + 1 + (m - K)) c)).heap.size)) := fun z3 v3 o3 b3 =>
                    add_fin (z3 := z3) RW II.out BW.out (bZ.trans b3) hcF FF.out OS.out UR.out MR.out nE.out hK hlo.out hhi.out hlR o3
                  have oneQ : ∀ u ∈ [Value.int .i64 id, .slice ar L cr], u.oneCell' = true := fun u hu => by simp at hu; rcases hu with rfl | rfl <;> rfl
                  have A := ins3A (cP := rc) (cR := (rc - K)) (Q := [.int .i64 id, .slice ar L cr]) t W2.drew 35 (rP.below bZ) (rR.below bZ) rfl oneQ (by omega)
                  have Bb := ins3B (cP := rc) (cR := (rc - K)) (Q := [.int .i64 id, .slice ar L cr]) t W2.drew 35 (rP.below bZ) (rR.below bZ) rfl oneQ (by omega)
                  have C := ins3C (cP := rc) (cR := (rc - K)) (Q := [.int .i64 id, .slice ar L cr]) t W2.drew 35 (rP.below bZ) (rR.below bZ) rfl oneQ (by omega)
                  obtain ⟨v1a, z1a, v2a, z2a, v3a, z3a, r1a, b1a, r2a, b2a, r3a, o3a, b3a⟩ := A
                  obtain ⟨ga, ca, ea, ⟨k1a, k2a⟩, na⟩ := fin z3a v3a o3a b3a
                  subst ea
                  have Na : Aside _ := na
                  have C3a : Aside _ := k1a
                  have F3a : Aside _ := k2a
                  have R1a : Hid _ := r1a
                  have R2a : Hid _ := r2a
                  have R3a : Hid _ := r3a
                  clear r1a r2a r3a o3a na k1a k2a
                  obtain ⟨v1b, z1b, v2b, z2b, v3b, z3b, r1b, b1b, r2b, b2b, r3b, o3b, b3b⟩ := Bb
                  obtain ⟨gb, cb, eb, ⟨k1b, k2b⟩, nb⟩ := fin z3b v3b o3b b3b
                  subst eb
                  have Nb : Aside _ := nb
                  have C3b : Aside _ := k1b
                  have F3b : Aside _ := k2b
                  have R1b : Hid _ := r1b
                  have R2b : Hid _ := r2b
                  have R3b : Hid _ := r3b
                  clear r1b r2b r3b o3b nb k1b k2b
                  obtain ⟨v1c, z1c, v2c, z2c, v3c, z3c, r1c, b1c, r2c, b2c, r3c, o3c, b3c⟩ := C
                  obtain ⟨gc, cc, ec, ⟨k1c, k2c⟩, nc⟩ := fin z3c v3c o3c b3c
                  subst ec
                  have Nc : Aside _ := nc
                  have C3c : Aside _ := k1c
                  have F3c : Aside _ := k2c
                  have R1c : Hid _ := r1c
                  have R2c : Hid _ := r2c
                  have R3c : Hid _ := r3c
                  clear r1c r2c r3c o3c nc k1c k2c
                  have bE : Below W2.drew.heap.size W2.drew (W2.drew.alloc (.cells #[] 55)) := (Below.refl _ _).alloc (Nat.le_refl _) _
                  have bQ : Below W2.drew.heap.size W2.drew (W2.drew.alloc (.cells #[.int .i64 id, .slice ar L cr] 55)) := (Below.refl _ _).alloc (Nat.le_refl _) _
                  have bEQ : Below W2.drew.heap.size W2.drew ((W2.drew.alloc (.cells #[] 55)).alloc (.cells #[.int .i64 id, .slice ar L cr] 55)) := bE.alloc bE.size _
                  have bQE : Below W2.drew.heap.size W2.drew ((W2.drew.alloc (.cells #[.int .i64 id, .slice ar L cr] 55)).alloc (.cells #[] 55)) := bQ.alloc bQ.size _
                  have bAQ : Below W2.drew.heap.size W2.drew (z1a.alloc (.cells #[.int .i64 id, .slice ar L cr] 55)) := b1a.alloc b1a.size _
                  have b0 : Below W2.drew.heap.size W2.drew W2.drew := Below.refl _ _
                  have KC : Aside (∀ v0, Below W2.drew.heap.size W2.drew v0 → v0.cell? ⟨F, 0, none⟩ = some (.slice (some ⟨bR, oR, none⟩) m rc)) := fun v0 hb => by
                    have h1 : W2.drew.cell? ⟨F, 0, none⟩ = some (.slice (some ⟨bR, oR, none⟩) m rc) := hcF
                    rw [← h1]
                    exact hb.cell (p := ⟨F, 0, none⟩) (show F < W2.heap.size by have := BW.out.size; have := FF.out; omega)
                  clear fin rP rR OP OR bZ one hcF RW
                  go_upto_region 15 with fail
                  refine anyE_start (S := (fun v0 => v0.cell? ⟨F, 0, none⟩ = some (.slice (some ⟨bR, oR, none⟩) m rc))) (L := 23) (by kernel_rfl) ?_
                  refine anyE_take (i := 0) (oi := { dst := some 77, op := Op.move (Operand.tmp 0), type := 34, pos := "vergerref12.go:206", after := #[], guard := none }) (v := ?_) rfl (by kernel_rfl)  (by kernel_rfl) (by kernel_rfl) (by kernel_rfl) (fun _ _ _ h => h) (Or.inl ⟨by rfl, ?_⟩) (KC.out _ b0) ?_
                  rotate_left
                  · (intro w hSw; (try dsimp only at hSw); go_simp; try with_reducible rfl)
                  simp only [Act.put, List.setIfInBounds_toArray, List.set_cons_zero, List.set_cons_succ]
                  refine anyE_take (i := 2) (oi := { dst := some 79, op := Op.move (Operand.tmp 0), type := 34, pos := "vergerref12.go:206", after := #[], guard := none }) (v := ?_) rfl (by kernel_rfl)  (by kernel_rfl) (by kernel_rfl) (by kernel_rfl) (fun _ _ _ h => h) (Or.inl ⟨by rfl, ?_⟩) (KC.out _ b0) ?_
                  rotate_left
                  · (intro w hSw; (try dsimp only at hSw); go_simp; try with_reducible rfl)
                  simp only [Act.put, List.setIfInBounds_toArray, List.set_cons_zero, List.set_cons_succ]
                  refine anyE_take (i := 3) (oi := { dst := some 80, op := Op.nilCheck (Operand.tmp 79), type := 0, pos := "vergerref12.go:206", after := #[{ on := 2, ground := Ground.data }], guard := none }) (v := ?_) rfl (by kernel_rfl)  (by kernel_rfl) (by kernel_rfl) (by kernel_rfl) (fun _ _ _ h => h) (Or.inl ⟨by rfl, ?_⟩) (KC.out _ b0) ?_
                  rotate_left
                  · (intro w hSw; (try dsimp only at hSw); go_simp; try with_reducible rfl)
                  simp only [Act.put, List.setIfInBounds_toArray, List.set_cons_zero, List.set_cons_succ]
                  refine anyE_take (i := 4) (oi := { dst := some 81, op := Op.fieldAddr 37 (Operand.tmp 80) 0, type := 0, pos := "vergerref12.go:206", after := #[{ on := 3, ground := Ground.data }], guard := none }) (v := ?_) rfl (by kernel_rfl)  (by kernel_rfl) (by kernel_rfl) (by kernel_rfl) (fun _ _ _ h => h) (Or.inl ⟨by rfl, ?_⟩) (KC.out _ b0) ?_
                  rotate_left
                  · (intro w hSw; (try dsimp only at hSw); go_simp; try with_reducible rfl)
                  simp only [Act.put, List.setIfInBounds_toArray, List.set_cons_zero, List.set_cons_succ]
                  refine anyE_take (i := 5) (oi := { dst := some 82, op := Op.load 35 (Operand.tmp 81), type := 35, pos := "vergerref12.go:206", after := #[{ on := 4, ground := Ground.data }], guard := none }) (v := ?_) rfl (by kernel_rfl)  (by kernel_rfl) (by kernel_rfl) (by kernel_rfl) (fun _ _ _ h => h) (Or.inl ⟨by rfl, ?_⟩) (KC.out _ b0) ?_
                  rotate_left
                  · (intro w hSw; (try dsimp only at hSw); go_simp; try with_reducible rfl)
                  simp only [Act.put, List.setIfInBounds_toArray, List.set_cons_zero, List.set_cons_succ]
                  refine anyE_take (i := 6) (oi := { dst := some 83, op := Op.move (Operand.tmp 9), type := 3, pos := "vergerref12.go:206", after := #[], guard := none }) (v := ?_) rfl (by kernel_rfl)  (by kernel_rfl) (by kernel_rfl) (by kernel_rfl) (fun _ _ _ h => h) (Or.inl ⟨by rfl, ?_⟩) (KC.out _ b0) ?_
                  rotate_left
                  · (intro w hSw; (try dsimp only at hSw); go_simp; try with_reducible rfl)
                  simp only [Act.put, List.setIfInBounds_toArray, List.set_cons_zero, List.set_cons_succ]
                  refine anyE_take (i := 7) (oi := { dst := some 84, op := Op.slice 35 (Operand.tmp 82) none (some (Operand.tmp 83)) none, type := 35, pos := "vergerref12.go:206", after := #[{ on := 5, ground := Ground.data }, { on := 6, ground := Ground.data }], guard := none }) (v := ?_) rfl (by kernel_rfl)  (by kernel_rfl) (by kernel_rfl) (by kernel_rfl) (fun _ _ _ h => h) (Or.inl ⟨by rfl, ?_⟩) (KC.out _ b0) ?_
                  rotate_left
                  · (intro w hSw; (try dsimp only at hSw); go_simp; try with_reducible rfl)
                  simp only [Act.put, List.setIfInBounds_toArray, List.set_cons_zero, List.set_cons_succ]
                  refine anyE_take (i := 9) (oi := { dst := some 86, op := Op.move (Operand.tmp 1), type := 3, pos := "vergerref12.go:206", after := #[], guard := none }) (v := ?_) rfl (by kernel_rfl)  (by kernel_rfl) (by kernel_rfl) (by kernel_rfl) (fun _ _ _ h => h) (Or.inl ⟨by rfl, ?_⟩) (KC.out _ b0) ?_
                  rotate_left
                  · (intro w hSw; (try dsimp only at hSw); go_simp; try with_reducible rfl)
                  simp only [Act.put, List.setIfInBounds_toArray, List.set_cons_zero, List.set_cons_succ]
                  refine anyE_take (i := 10) (oi := { dst := some 87, op := Op.move (Operand.tmp 10), type := 24, pos := "vergerref12.go:206", after := #[], guard := none }) (v := ?_) rfl (by kernel_rfl)  (by kernel_rfl) (by kernel_rfl) (by kernel_rfl) (fun _ _ _ h => h) (Or.inl ⟨by rfl, ?_⟩) (KC.out _ b0) ?_
                  rotate_left
                  · (intro w hSw; (try dsimp only at hSw); go_simp; try with_reducible rfl)
                  simp only [Act.put, List.setIfInBounds_toArray, List.set_cons_zero, List.set_cons_succ]
                  refine anyE_take (i := 11) (oi := { dst := some 88, op := Op.build 55 #[(0, Operand.tmp 86), (1, Operand.tmp 87)], type := 55, pos := "vergerref12.go:206", after := #[{ on := 9, ground := Ground.data }, { on := 10, ground := Ground.data }], guard := none }) (v := ?_) rfl (by kernel_rfl)  (by kernel_rfl) (by kernel_rfl) (by kernel_rfl) (fun _ _ _ h => h) (Or.inl ⟨by rfl, ?_⟩) (KC.out _ b0) ?_
                  rotate_left
                  · (intro w hSw; (try dsimp only at hSw); go_simp; try with_reducible rfl)
                  simp only [Act.put, List.setIfInBounds_toArray, List.set_cons_zero, List.set_cons_succ]
                  refine anyE_take (i := 14) (oi := { dst := some 91, op := Op.move (Operand.tmp 0), type := 34, pos := "vergerref12.go:206", after := #[], guard := none }) (v := ?_) rfl (by kernel_rfl)  (by kernel_rfl) (by kernel_rfl) (by kernel_rfl) (fun _ _ _ h => h) (Or.inl ⟨by rfl, ?_⟩) (KC.out _ b0) ?_
                  rotate_left
                  · (intro w hSw; (try dsimp only at hSw); go_simp; try with_reducible rfl)
                  simp only [Act.put, List.setIfInBounds_toArray, List.set_cons_zero, List.set_cons_succ]
                  refine anyE_take (i := 15) (oi := { dst := some 92, op := Op.nilCheck (Operand.tmp 91), type := 0, pos := "vergerref12.go:206", after := #[{ on := 14, ground := Ground.data }], guard := none }) (v := ?_) rfl (by kernel_rfl)  (by kernel_rfl) (by kernel_rfl) (by kernel_rfl) (fun _ _ _ h => h) (Or.inl ⟨by rfl, ?_⟩) (KC.out _ b0) ?_
                  rotate_left
                  · (intro w hSw; (try dsimp only at hSw); go_simp; try with_reducible rfl)
                  simp only [Act.put, List.setIfInBounds_toArray, List.set_cons_zero, List.set_cons_succ]
                  refine anyE_take (i := 16) (oi := { dst := some 93, op := Op.fieldAddr 37 (Operand.tmp 92) 0, type := 0, pos := "vergerref12.go:206", after := #[{ on := 15, ground := Ground.data }], guard := none }) (v := ?_) rfl (by kernel_rfl)  (by kernel_rfl) (by kernel_rfl) (by kernel_rfl) (fun _ _ _ h => h) (Or.inl ⟨by rfl, ?_⟩) (KC.out _ b0) ?_
                  rotate_left
                  · (intro w hSw; (try dsimp only at hSw); go_simp; try with_reducible rfl)
                  simp only [Act.put, List.setIfInBounds_toArray, List.set_cons_zero, List.set_cons_succ]
                  refine anyE_take (i := 17) (oi := { dst := some 94, op := Op.load 35 (Operand.tmp 93), type := 35, pos := "vergerref12.go:206", after := #[{ on := 16, ground := Ground.data }], guard := none }) (v := ?_) rfl (by kernel_rfl)  (by kernel_rfl) (by kernel_rfl) (by kernel_rfl) (fun _ _ _ h => h) (Or.inl ⟨by rfl, ?_⟩) (KC.out _ b0) ?_
                  rotate_left
                  · (intro w hSw; (try dsimp only at hSw); go_simp; try with_reducible rfl)
                  simp only [Act.put, List.setIfInBounds_toArray, List.set_cons_zero, List.set_cons_succ]
                  refine anyE_take (i := 18) (oi := { dst := some 95, op := Op.move (Operand.tmp 9), type := 3, pos := "vergerref12.go:206", after := #[], guard := none }) (v := ?_) rfl (by kernel_rfl)  (by kernel_rfl) (by kernel_rfl) (by kernel_rfl) (fun _ _ _ h => h) (Or.inl ⟨by rfl, ?_⟩) (KC.out _ b0) ?_
                  rotate_left
                  · (intro w hSw; (try dsimp only at hSw); go_simp; try with_reducible rfl)
                  simp only [Act.put, List.setIfInBounds_toArray, List.set_cons_zero, List.set_cons_succ]
                  refine anyE_take (i := 19) (oi := { dst := some 96, op := Op.slice 35 (Operand.tmp 94) (some (Operand.tmp 95)) none none, type := 35, pos := "vergerref12.go:206", after := #[{ on := 17, ground := Ground.data }, { on := 18, ground := Ground.data }], guard := none }) (v := ?_) rfl (by kernel_rfl)  (by kernel_rfl) (by kernel_rfl) (by kernel_rfl) (fun _ _ _ h => h) (Or.inl ⟨by rfl, ?_⟩) (KC.out _ b0) ?_
                  rotate_left
                  · (intro w hSw; (try dsimp only at hSw); go_simp; try with_reducible rfl)
                  simp only [Act.put, List.setIfInBounds_toArray, List.set_cons_zero, List.set_cons_succ]
                  refine anyE_ready (rs := [1, 12]) (by kernel_rfl) (by simp) ?_
                  refine AllE.cons (o := { dst := some 78, op := Op.buildSlice 35 0 #[], type := 35, pos := "vergerref12.go:206", after := #[], guard := none }) rfl (fun Kt hKt => ?_) ?_
                  · go_simp
                    refine hKt.out _ _ (fun _ => KC.out _ bE) ?_
                    clear hKt Kt
                    try simp only [Act.put, List.setIfInBounds_toArray, List.set_cons_zero, List.set_cons_succ]
                    refine anyE_ready (rs := [8, 12]) (by kernel_rfl) (by simp) ?_
                    refine AllE.cons (o := { dst := some 85, op := Op.call { callee := Callee.builtin Builtin.append, args := #[Operand.tmp 78, Operand.tmp 84], argTypes := #[35, 35] }, type := 35, pos := "vergerref12.go:206", after := #[{ on := 1, ground := Ground.data }, { on := 7, ground := Ground.data }], guard := none }) rfl (fun Kt hKt => ?_) ?_
                    · refine step_app _ (by rfl) _ _ 35 35 (by rfl) (.slice (some ⟨W2.heap.size, 0, none⟩) 0 0) (.slice (some ⟨bR, oR, none⟩) K rc) (by rfl) (by rfl) _ z1a R1a.out ?_
                      refine hKt.out _ _ (fun _ => KC.out _ b1a) ?_
                      clear hKt Kt
                      try simp only [Act.put, List.setIfInBounds_toArray, List.set_cons_zero, List.set_cons_succ]
                      refine anyE_ready (rs := [12]) (by kernel_rfl) (by simp) ?_
                      refine AllE.cons (o := { dst := some 89, op := Op.buildSlice 35 1 #[(0, Operand.tmp 88)], type := 35, pos := "vergerref12.go:206", after := #[{ on := 11, ground := Ground.data }], guard := none }) rfl (fun Kt hKt => ?_) ?_
                      · go_simp
                        refine hKt.out _ _ (fun _ => KC.out _ bAQ) ?_
                        clear hKt Kt
                        try simp only [Act.put, List.setIfInBounds_toArray, List.set_cons_zero, List.set_cons_succ]
                        refine anyE_ready (rs := [13]) (by kernel_rfl) (by simp) ?_
                        refine AllE.cons (o := { dst := some 90, op := Op.call { callee := Callee.builtin Builtin.append, args := #[Operand.tmp 85, Operand.tmp 89], argTypes := #[35, 35] }, type := 35, pos := "vergerref12.go:206", after := #[{ on := 8, ground := Ground.data }, { on := 12, ground := Ground.data }, { on := 8, ground := Ground.chain }], guard := none }) rfl (fun Kt hKt => ?_) ?_
                        · refine step_app _ (by rfl) _ _ 35 35 (by rfl) _ (.slice (some ⟨z1a.heap.size, 0, none⟩) 1 1) (by rfl) (by rfl) _ z2a R2a.out ?_
                          refine hKt.out _ _ (fun _ => KC.out _ b2a) ?_
                          clear hKt Kt
                          try simp only [Act.put, List.setIfInBounds_toArray, List.set_cons_zero, List.set_cons_succ]
                          refine anyE_ready (rs := [20]) (by kernel_rfl) (by simp) ?_
                          refine AllE.cons (o := { dst := some 97, op := Op.call { callee := Callee.builtin Builtin.append, args := #[Operand.tmp 90, Operand.tmp 96], argTypes := #[35, 35] }, type := 35, pos := "vergerref12.go:206", after := #[{ on := 13, ground := Ground.data }, { on := 19, ground := Ground.data }, { on := 13, ground := Ground.chain }], guard := none }) rfl (fun Kt hKt => ?_) ?_
                          · refine step_app _ (by rfl) _ _ 35 35 (by rfl) _ (.slice (some ⟨bR, oR + K * 2, none⟩) (m - K) (rc - K)) (by rfl) (by rfl) _ z3a R3a.out ?_
                            refine hKt.out _ _ (fun _ => KC.out _ b3a) ?_
                            clear hKt Kt
                            try simp only [Act.put, List.setIfInBounds_toArray, List.set_cons_zero, List.set_cons_succ]
                            refine anyF_take [22] (i := 21) (oi := { dst := some 98, op := Op.nilCheck (Operand.tmp 77), type := 0, pos := "vergerref12.go:206", after := #[{ on := 0, ground := Ground.data }, { on := 0, ground := Ground.phase }, { on := 1, ground := Ground.phase }, { on := 2, ground := Ground.phase }, { on := 3, ground := Ground.phase }, { on := 4, ground := Ground.phase }, { on := 5, ground := Ground.phase }, { on := 6, ground := Ground.phase }, { on := 7, ground := Ground.phase }, { on := 8, ground := Ground.phase }, { on := 9, ground := Ground.phase }, { on := 10, ground := Ground.phase }, { on := 11, ground := Ground.phase }, { on := 12, ground := Ground.phase }, { on := 13, ground := Ground.phase }, { on := 14, ground := Ground.phase }, { on := 15, ground := Ground.phase }, { on := 16, ground := Ground.phase }, { on := 17, ground := Ground.phase }, { on := 18, ground := Ground.phase }, { on := 19, ground := Ground.phase }, { on := 20, ground := Ground.phase }], guard := none }) (v := ?_) rfl (by kernel_rfl) (by kernel_rfl)  (by kernel_rfl) (by kernel_rfl) (by kernel_rfl) (fun _ _ _ h => h) (Or.inl ⟨by rfl, ?_⟩) (KC.out _ b3a) ?_
                            rotate_left
                            · (intro w hSw; (try dsimp only at hSw); go_simp; try with_reducible rfl)
                            simp only [Act.put, List.setIfInBounds_toArray, List.set_cons_zero, List.set_cons_succ]
                            refine anyE_take (i := 22) (oi := { dst := some 99, op := Op.fieldAddr 37 (Operand.tmp 98) 0, type := 0, pos := "vergerref12.go:206", after := #[{ on := 21, ground := Ground.data }, { on := 0, ground := Ground.phase }, { on := 1, ground := Ground.phase }, { on := 2, ground := Ground.phase }, { on := 3, ground := Ground.phase }, { on := 4, ground := Ground.phase }, { on := 5, ground := Ground.phase }, { on := 6, ground := Ground.phase }, { on := 7, ground := Ground.phase }, { on := 8, ground := Ground.phase }, { on := 9, ground := Ground.phase }, { on := 10, ground := Ground.phase }, { on := 11, ground := Ground.phase }, { on := 12, ground := Ground.phase }, { on := 13, ground := Ground.phase }, { on := 14, ground := Ground.phase }, { on := 15, ground := Ground.phase }, { on := 16, ground := Ground.phase }, { on := 17, ground := Ground.phase }, { on := 18, ground := Ground.phase }, { on := 19, ground := Ground.phase }, { on := 20, ground := Ground.phase }], guard := none }) (v := ?_) rfl (by kernel_rfl)  (by kernel_rfl) (by kernel_rfl) (by kernel_rfl) (fun _ _ _ h => h) (Or.inl ⟨by rfl, ?_⟩) (KC.out _ b3a) ?_
                            rotate_left
                            · (intro w hSw; (try dsimp only at hSw); go_simp; try with_reducible rfl)
                            simp only [Act.put, List.setIfInBounds_toArray, List.set_cons_zero, List.set_cons_succ]
                            refine anyE_ready (rs := [23]) (by kernel_rfl) (by simp) ?_
                            refine AllE.cons (o := { dst := none, op := Op.store 35 (Operand.tmp 99) (Operand.tmp 97), type := 0, pos := "vergerref12.go:206", after := #[{ on := 22, ground := Ground.data }, { on := 20, ground := Ground.data }, { on := 20, ground := Ground.chain }, { on := 0, ground := Ground.phase }, { on := 1, ground := Ground.phase }, { on := 2, ground := Ground.phase }, { on := 3, ground := Ground.phase }, { on := 4, ground := Ground.phase }, { on := 5, ground := Ground.phase }, { on := 6, ground := Ground.phase }, { on := 7, ground := Ground.phase }, { on := 8, ground := Ground.phase }, { on := 9, ground := Ground.phase }, { on := 10, ground := Ground.phase }, { on := 11, ground := Ground.phase }, { on := 12, ground := Ground.phase }, { on := 13, ground := Ground.phase }, { on := 14, ground := Ground.phase }, { on := 15, ground := Ground.phase }, { on := 16, ground := Ground.phase }, { on := 17, ground := Ground.phase }, { on := 18, ground := Ground.phase }, { on := 19, ground := Ground.phase }, { on := 20, ground := Ground.phase }], guard := none }) rfl (fun Kt hKt => ?_) ?_
                            · have cF := C3a.out
                              have fF := F3a.out
                              go_simp
                              refine hKt.out _ _ (fun h => absurd rfl h) ?_
                              clear hKt Kt
                              try simp only [Act.put, List.setIfInBounds_toArray, List.set_cons_zero, List.set_cons_succ]
                              refine anyE_done (by kernel_rfl) ?_ _
                              go_wp2_with fail
                              exact bodyPost_ret (v := .tuple #[.int .i64 L, .int .i64 0]) (by simp [results, Try.results15, go_sem]) rfl (AddIs.ok HB.out nE.out HL.out UR.out MR.out Na.out)
                            exact AllE.nil
                          exact AllE.nil
                        exact AllE.nil
                      exact AllE.nil
                    refine AllE.cons (o := { dst := some 89, op := Op.buildSlice 35 1 #[(0, Operand.tmp 88)], type := 35, pos := "vergerref12.go:206", after := #[{ on := 11, ground := Ground.data }], guard := none }) rfl (fun Kt hKt => ?_) ?_
                    · go_simp
                      refine hKt.out _ _ (fun _ => KC.out _ bEQ) ?_
                      clear hKt Kt
                      try simp only [Act.put, List.setIfInBounds_toArray, List.set_cons_zero, List.set_cons_succ]
                      refine anyE_ready (rs := [8]) (by kernel_rfl) (by simp) ?_
                      refine AllE.cons (o := { dst := some 85, op := Op.call { callee := Callee.builtin Builtin.append, args := #[Operand.tmp 78, Operand.tmp 84], argTypes := #[35, 35] }, type := 35, pos := "vergerref12.go:206", after := #[{ on := 1, ground := Ground.data }, { on := 7, ground := Ground.data }], guard := none }) rfl (fun Kt hKt => ?_) ?_
                      · refine step_app _ (by rfl) _ _ 35 35 (by rfl) (.slice (some ⟨W2.heap.size, 0, none⟩) 0 0) (.slice (some ⟨bR, oR, none⟩) K rc) (by rfl) (by rfl) _ z1b R1b.out ?_
                        refine hKt.out _ _ (fun _ => KC.out _ b1b) ?_
                        clear hKt Kt
                        try simp only [Act.put, List.setIfInBounds_toArray, List.set_cons_zero, List.set_cons_succ]
                        refine anyE_ready (rs := [13]) (by kernel_rfl) (by simp) ?_
                        refine AllE.cons (o := { dst := some 90, op := Op.call { callee := Callee.builtin Builtin.append, args := #[Operand.tmp 85, Operand.tmp 89], argTypes := #[35, 35] }, type := 35, pos := "vergerref12.go:206", after := #[{ on := 8, ground := Ground.data }, { on := 12, ground := Ground.data }, { on := 8, ground := Ground.chain }], guard := none }) rfl (fun Kt hKt => ?_) ?_
                        · refine step_app _ (by rfl) _ _ 35 35 (by rfl) _ (.slice (some ⟨W2.heap.size + 1, 0, none⟩) 1 1) (by rfl) (by rfl) _ z2b R2b.out ?_
                          refine hKt.out _ _ (fun _ => KC.out _ b2b) ?_
                          clear hKt Kt
                          try simp only [Act.put, List.setIfInBounds_toArray, List.set_cons_zero, List.set_cons_succ]
                          refine anyE_ready (rs := [20]) (by kernel_rfl) (by simp) ?_
                          refine AllE.cons (o := { dst := some 97, op := Op.call { callee := Callee.builtin Builtin.append, args := #[Operand.tmp 90, Operand.tmp 96], argTypes := #[35, 35] }, type := 35, pos := "vergerref12.go:206", after := #[{ on := 13, ground := Ground.data }, { on := 19, ground := Ground.data }, { on := 13, ground := Ground.chain }], guard := none }) rfl (fun Kt hKt => ?_) ?_
                          · refine step_app _ (by rfl) _ _ 35 35 (by rfl) _ (.slice (some ⟨bR, oR + K * 2, none⟩) (m - K) (rc - K)) (by rfl) (by rfl) _ z3b R3b.out ?_
                            refine hKt.out _ _ (fun _ => KC.out _ b3b) ?_
                            clear hKt Kt
                            try simp only [Act.put, List.setIfInBounds_toArray, List.set_cons_zero, List.set_cons_succ]
                            refine anyF_take [22] (i := 21) (oi := { dst := some 98, op := Op.nilCheck (Operand.tmp 77), type := 0, pos := "vergerref12.go:206", after := #[{ on := 0, ground := Ground.data }, { on := 0, ground := Ground.phase }, { on := 1, ground := Ground.phase }, { on := 2, ground := Ground.phase }, { on := 3, ground := Ground.phase }, { on := 4, ground := Ground.phase }, { on := 5, ground := Ground.phase }, { on := 6, ground := Ground.phase }, { on := 7, ground := Ground.phase }, { on := 8, ground := Ground.phase }, { on := 9, ground := Ground.phase }, { on := 10, ground := Ground.phase }, { on := 11, ground := Ground.phase }, { on := 12, ground := Ground.phase }, { on := 13, ground := Ground.phase }, { on := 14, ground := Ground.phase }, { on := 15, ground := Ground.phase }, { on := 16, ground := Ground.phase }, { on := 17, ground := Ground.phase }, { on := 18, ground := Ground.phase }, { on := 19, ground := Ground.phase }, { on := 20, ground := Ground.phase }], guard := none }) (v := ?_) rfl (by kernel_rfl) (by kernel_rfl)  (by kernel_rfl) (by kernel_rfl) (by kernel_rfl) (fun _ _ _ h => h) (Or.inl ⟨by rfl, ?_⟩) (KC.out _ b3b) ?_
                            rotate_left
                            · (intro w hSw; (try dsimp only at hSw); go_simp; try with_reducible rfl)
                            simp only [Act.put, List.setIfInBounds_toArray, List.set_cons_zero, List.set_cons_succ]
                            refine anyE_take (i := 22) (oi := { dst := some 99, op := Op.fieldAddr 37 (Operand.tmp 98) 0, type := 0, pos := "vergerref12.go:206", after := #[{ on := 21, ground := Ground.data }, { on := 0, ground := Ground.phase }, { on := 1, ground := Ground.phase }, { on := 2, ground := Ground.phase }, { on := 3, ground := Ground.phase }, { on := 4, ground := Ground.phase }, { on := 5, ground := Ground.phase }, { on := 6, ground := Ground.phase }, { on := 7, ground := Ground.phase }, { on := 8, ground := Ground.phase }, { on := 9, ground := Ground.phase }, { on := 10, ground := Ground.phase }, { on := 11, ground := Ground.phase }, { on := 12, ground := Ground.phase }, { on := 13, ground := Ground.phase }, { on := 14, ground := Ground.phase }, { on := 15, ground := Ground.phase }, { on := 16, ground := Ground.phase }, { on := 17, ground := Ground.phase }, { on := 18, ground := Ground.phase }, { on := 19, ground := Ground.phase }, { on := 20, ground := Ground.phase }], guard := none }) (v := ?_) rfl (by kernel_rfl)  (by kernel_rfl) (by kernel_rfl) (by kernel_rfl) (fun _ _ _ h => h) (Or.inl ⟨by rfl, ?_⟩) (KC.out _ b3b) ?_
                            rotate_left
                            · (intro w hSw; (try dsimp only at hSw); go_simp; try with_reducible rfl)
                            simp only [Act.put, List.setIfInBounds_toArray, List.set_cons_zero, List.set_cons_succ]
                            refine anyE_ready (rs := [23]) (by kernel_rfl) (by simp) ?_
                            refine AllE.cons (o := { dst := none, op := Op.store 35 (Operand.tmp 99) (Operand.tmp 97), type := 0, pos := "vergerref12.go:206", after := #[{ on := 22, ground := Ground.data }, { on := 20, ground := Ground.data }, { on := 20, ground := Ground.chain }, { on := 0, ground := Ground.phase }, { on := 1, ground := Ground.phase }, { on := 2, ground := Ground.phase }, { on := 3, ground := Ground.phase }, { on := 4, ground := Ground.phase }, { on := 5, ground := Ground.phase }, { on := 6, ground := Ground.phase }, { on := 7, ground := Ground.phase }, { on := 8, ground := Ground.phase }, { on := 9, ground := Ground.phase }, { on := 10, ground := Ground.phase }, { on := 11, ground := Ground.phase }, { on := 12, ground := Ground.phase }, { on := 13, ground := Ground.phase }, { on := 14, ground := Ground.phase }, { on := 15, ground := Ground.phase }, { on := 16, ground := Ground.phase }, { on := 17, ground := Ground.phase }, { on := 18, ground := Ground.phase }, { on := 19, ground := Ground.phase }, { on := 20, ground := Ground.phase }], guard := none }) rfl (fun Kt hKt => ?_) ?_
                            · have cF := C3b.out
                              have fF := F3b.out
                              go_simp
                              refine hKt.out _ _ (fun h => absurd rfl h) ?_
                              clear hKt Kt
                              try simp only [Act.put, List.setIfInBounds_toArray, List.set_cons_zero, List.set_cons_succ]
                              refine anyE_done (by kernel_rfl) ?_ _
                              go_wp2_with fail
                              exact bodyPost_ret (v := .tuple #[.int .i64 L, .int .i64 0]) (by simp [results, Try.results15, go_sem]) rfl (AddIs.ok HB.out nE.out HL.out UR.out MR.out Nb.out)
                            exact AllE.nil
                          exact AllE.nil
                        exact AllE.nil
                      exact AllE.nil
                    exact AllE.nil
                  refine AllE.cons (o := { dst := some 89, op := Op.buildSlice 35 1 #[(0, Operand.tmp 88)], type := 35, pos := "vergerref12.go:206", after := #[{ on := 11, ground := Ground.data }], guard := none }) rfl (fun Kt hKt => ?_) ?_
                  · go_simp
                    refine hKt.out _ _ (fun _ => KC.out _ bQ) ?_
                    clear hKt Kt
                    try simp only [Act.put, List.setIfInBounds_toArray, List.set_cons_zero, List.set_cons_succ]
                    refine anyE_ready (rs := [1]) (by kernel_rfl) (by simp) ?_
                    refine AllE.cons (o := { dst := some 78, op := Op.buildSlice 35 0 #[], type := 35, pos := "vergerref12.go:206", after := #[], guard := none }) rfl (fun Kt hKt => ?_) ?_
                    · go_simp
                      refine hKt.out _ _ (fun _ => KC.out _ bQE) ?_
                      clear hKt Kt
                      try simp only [Act.put, List.setIfInBounds_toArray, List.set_cons_zero, List.set_cons_succ]
                      refine anyE_ready (rs := [8]) (by kernel_rfl) (by simp) ?_
                      refine AllE.cons (o := { dst := some 85, op := Op.call { callee := Callee.builtin Builtin.append, args := #[Operand.tmp 78, Operand.tmp 84], argTypes := #[35, 35] }, type := 35, pos := "vergerref12.go:206", after := #[{ on := 1, ground := Ground.data }, { on := 7, ground := Ground.data }], guard := none }) rfl (fun Kt hKt => ?_) ?_
                      · refine step_app _ (by rfl) _ _ 35 35 (by rfl) (.slice (some ⟨W2.heap.size + 1, 0, none⟩) 0 0) (.slice (some ⟨bR, oR, none⟩) K rc) (by rfl) (by rfl) _ z1c R1c.out ?_
                        refine hKt.out _ _ (fun _ => KC.out _ b1c) ?_
                        clear hKt Kt
                        try simp only [Act.put, List.setIfInBounds_toArray, List.set_cons_zero, List.set_cons_succ]
                        refine anyE_ready (rs := [13]) (by kernel_rfl) (by simp) ?_
                        refine AllE.cons (o := { dst := some 90, op := Op.call { callee := Callee.builtin Builtin.append, args := #[Operand.tmp 85, Operand.tmp 89], argTypes := #[35, 35] }, type := 35, pos := "vergerref12.go:206", after := #[{ on := 8, ground := Ground.data }, { on := 12, ground := Ground.data }, { on := 8, ground := Ground.chain }], guard := none }) rfl (fun Kt hKt => ?_) ?_
                        · refine step_app _ (by rfl) _ _ 35 35 (by rfl) _ (.slice (some ⟨W2.heap.size, 0, none⟩) 1 1) (by rfl) (by rfl) _ z2c R2c.out ?_
                          refine hKt.out _ _ (fun _ => KC.out _ b2c) ?_
                          clear hKt Kt
                          try simp only [Act.put, List.setIfInBounds_toArray, List.set_cons_zero, List.set_cons_succ]
                          refine anyE_ready (rs := [20]) (by kernel_rfl) (by simp) ?_
                          refine AllE.cons (o := { dst := some 97, op := Op.call { callee := Callee.builtin Builtin.append, args := #[Operand.tmp 90, Operand.tmp 96], argTypes := #[35, 35] }, type := 35, pos := "vergerref12.go:206", after := #[{ on := 13, ground := Ground.data }, { on := 19, ground := Ground.data }, { on := 13, ground := Ground.chain }], guard := none }) rfl (fun Kt hKt => ?_) ?_
                          · refine step_app _ (by rfl) _ _ 35 35 (by rfl) _ (.slice (some ⟨bR, oR + K * 2, none⟩) (m - K) (rc - K)) (by rfl) (by rfl) _ z3c R3c.out ?_
                            refine hKt.out _ _ (fun _ => KC.out _ b3c) ?_
                            clear hKt Kt
                            try simp only [Act.put, List.setIfInBounds_toArray, List.set_cons_zero, List.set_cons_succ]
                            refine anyF_take [22] (i := 21) (oi := { dst := some 98, op := Op.nilCheck (Operand.tmp 77), type := 0, pos := "vergerref12.go:206", after := #[{ on := 0, ground := Ground.data }, { on := 0, ground := Ground.phase }, { on := 1, ground := Ground.phase }, { on := 2, ground := Ground.phase }, { on := 3, ground := Ground.phase }, { on := 4, ground := Ground.phase }, { on := 5, ground := Ground.phase }, { on := 6, ground := Ground.phase }, { on := 7, ground := Ground.phase }, { on := 8, ground := Ground.phase }, { on := 9, ground := Ground.phase }, { on := 10, ground := Ground.phase }, { on := 11, ground := Ground.phase }, { on := 12, ground := Ground.phase }, { on := 13, ground := Ground.phase }, { on := 14, ground := Ground.phase }, { on := 15, ground := Ground.phase }, { on := 16, ground := Ground.phase }, { on := 17, ground := Ground.phase }, { on := 18, ground := Ground.phase }, { on := 19, ground := Ground.phase }, { on := 20, ground := Ground.phase }], guard := none }) (v := ?_) rfl (by kernel_rfl) (by kernel_rfl)  (by kernel_rfl) (by kernel_rfl) (by kernel_rfl) (fun _ _ _ h => h) (Or.inl ⟨by rfl, ?_⟩) (KC.out _ b3c) ?_
                            rotate_left
                            · (intro w hSw; (try dsimp only at hSw); go_simp; try with_reducible rfl)
                            simp only [Act.put, List.setIfInBounds_toArray, List.set_cons_zero, List.set_cons_succ]
                            refine anyE_take (i := 22) (oi := { dst := some 99, op := Op.fieldAddr 37 (Operand.tmp 98) 0, type := 0, pos := "vergerref12.go:206", after := #[{ on := 21, ground := Ground.data }, { on := 0, ground := Ground.phase }, { on := 1, ground := Ground.phase }, { on := 2, ground := Ground.phase }, { on := 3, ground := Ground.phase }, { on := 4, ground := Ground.phase }, { on := 5, ground := Ground.phase }, { on := 6, ground := Ground.phase }, { on := 7, ground := Ground.phase }, { on := 8, ground := Ground.phase }, { on := 9, ground := Ground.phase }, { on := 10, ground := Ground.phase }, { on := 11, ground := Ground.phase }, { on := 12, ground := Ground.phase }, { on := 13, ground := Ground.phase }, { on := 14, ground := Ground.phase }, { on := 15, ground := Ground.phase }, { on := 16, ground := Ground.phase }, { on := 17, ground := Ground.phase }, { on := 18, ground := Ground.phase }, { on := 19, ground := Ground.phase }, { on := 20, ground := Ground.phase }], guard := none }) (v := ?_) rfl (by kernel_rfl)  (by kernel_rfl) (by kernel_rfl) (by kernel_rfl) (fun _ _ _ h => h) (Or.inl ⟨by rfl, ?_⟩) (KC.out _ b3c) ?_
                            rotate_left
                            · (intro w hSw; (try dsimp only at hSw); go_simp; try with_reducible rfl)
                            simp only [Act.put, List.setIfInBounds_toArray, List.set_cons_zero, List.set_cons_succ]
                            refine anyE_ready (rs := [23]) (by kernel_rfl) (by simp) ?_
                            refine AllE.cons (o := { dst := none, op := Op.store 35 (Operand.tmp 99) (Operand.tmp 97), type := 0, pos := "vergerref12.go:206", after := #[{ on := 22, ground := Ground.data }, { on := 20, ground := Ground.data }, { on := 20, ground := Ground.chain }, { on := 0, ground := Ground.phase }, { on := 1, ground := Ground.phase }, { on := 2, ground := Ground.phase }, { on := 3, ground := Ground.phase }, { on := 4, ground := Ground.phase }, { on := 5, ground := Ground.phase }, { on := 6, ground := Ground.phase }, { on := 7, ground := Ground.phase }, { on := 8, ground := Ground.phase }, { on := 9, ground := Ground.phase }, { on := 10, ground := Ground.phase }, { on := 11, ground := Ground.phase }, { on := 12, ground := Ground.phase }, { on := 13, ground := Ground.phase }, { on := 14, ground := Ground.phase }, { on := 15, ground := Ground.phase }, { on := 16, ground := Ground.phase }, { on := 17, ground := Ground.phase }, { on := 18, ground := Ground.phase }, { on := 19, ground := Ground.phase }, { on := 20, ground := Ground.phase }], guard := none }) rfl (fun Kt hKt => ?_) ?_
                            · have cF := C3c.out
                              have fF := F3c.out
                              go_simp
                              refine hKt.out _ _ (fun h => absurd rfl h) ?_
                              clear hKt Kt
                              try simp only [Act.put, List.setIfInBounds_toArray, List.set_cons_zero, List.set_cons_succ]
                              refine anyE_done (by kernel_rfl) ?_ _
                              go_wp2_with fail
                              exact bodyPost_ret (v := .tuple #[.int .i64 L, .int .i64 0]) (by simp [results, Try.results15, go_sem]) rfl (AddIs.ok HB.out nE.out HL.out UR.out MR.out Nc.out)
                            exact AllE.nil
                          exact AllE.nil
                        exact AllE.nil
                      exact AllE.nil
                    exact AllE.nil
                  exact AllE.nil
          · have hhi : Aside (∀ t ∈ R.drop K, id < t.id) := fun t ht => by rw [List.drop_eq_nil_of_le (by omega)] at ht; simp at ht
            obtain rfl : K = m := by omega
            have nE : Aside (∀ q, ¬ E q id) := fun q hq => by
              obtain ⟨t, ht, e, _⟩ := (II.out.e _ _).1 hq
              rw [← List.take_append_drop K R] at ht
              rcases List.mem_append.1 ht with ht | ht
              · have := hlo.out t ht; omega
              · have := hhi.out t ht; omega
            go_wp2_with fail
            refine VR.mono ?_
            rintro e W2 ⟨v2, r, rfl, o2, ur, mr, lr, b2⟩
            obtain ⟨ar, cr, e2, _⟩ := o2.isI
            obtain ⟨L, hL⟩ : ∃ L, r.length = L := ⟨_, rfl⟩
            rw [hL] at e2 lr
            subst e2
            have UR : Aside (Up r) := ur
            have MR : Aside (∀ x, x ∈ r ↔ x ∈ d) := mr
            have BW : Aside (Below wr.heap.size wr W2) := b2
            have HL : Hid (r.length = L) := hL
            have RW : RD W2 Y F R := HR.out.below b2
            clear VR ur mr
            by_cases cL : L = 0
            · have nil : d = [] := List.eq_nil_iff_forall_not_mem.2 (fun x hx => by
                have h1 := (MR.out x).2 hx
                have h2 : r = [] := List.length_eq_zero_iff.1 (by rw [HL.out]; exact cL)
                rw [h2] at h1
                simp at h1)
              have FIN : Aside (∃ R' Y', RD W2 Y' F R' ∧ RI (fun q j => E q j ∨ (j = id ∧ q ∈ d)) R' ∧ R'.length ≤ R.length + 1 ∧ Fr (fun k => k = F) wr W2 ∧ ∀ k, Y' k → Y k ∨ (wr.heap.size ≤ k ∧ k < W2.heap.size)) := by
                refine ⟨R, Y, RW, ?_, by omega, Fr.below b2, fun k hk => .inl hk⟩
                have := II.out
                refine ⟨this.up, this.ps, fun q j => ?_⟩
                rw [← this.e, nil]
                simp
              clear o2 b2 RW nil hL
              subst cL
              go_wp2_with fail
              exact bodyPost_ret (v := .tuple #[.int .i64 ((0 : Nat) : Int), .int .i64 0]) (by simp [results, Try.results15, go_sem]) rfl (AddIs.ok HB.out nE.out HL.out UR.out MR.out FIN.out)
            · have shp := SHP.out
              rcases shp with shp | shp
              · obtain ⟨h1, h2, h3⟩ := shp
                subst h1 h2
                obtain rfl : K = 0 := by rw [← hm, h3]; rfl
                have OS : Aside (OwnI W2 wr.heap.size (.slice ar L cr) r ∧ r ≠ [] ∧ r.length = L) := ⟨o2, fun e => cL (by rw [← HL.out, e]; rfl), HL.out⟩
                have Lpos : 0 < L := by omega
                have hcF : W2.cell? ⟨F, 0, none⟩ = some (.slice none 0 0) := by rw [← hcW]; exact b2.cell (p := ⟨F, 0, none⟩) FF.out
                have QI : IsR W2 Y none 0 R := QR.out.fr (Fr.below (X := fun _ => False) b2) (fun _ _ h => h)
                clear o2 b2
                obtain ⟨t, -⟩ := tyR
                have OP := QI.take 0
                have OR : IsR W2 Y none 0 (R.drop 0) := QI
                have one : ∀ r ∈ R, r.v.oneCell' = true := fun r hr => (RW.pre r hr).one
                have hlP : (R.take 0).length = 0 := by simp <;> omega
                have hlR : (R.drop 0).length = 0 := by simp <;> omega
                have rP := OP.rd (fun r hr => one r (List.mem_of_mem_take hr))
                have rR := OR.rd (fun r hr => one r (List.mem_of_mem_drop hr))
                rw [hlP] at rP
                rw [hlR] at rR
                have bZ : Below W2.heap.size W2 W2.drew := (Below.refl _ _).drew
                have fin : ∀ (z3 : World) (v3 : Value), z3.ownsRow W2.drew.heap.size 55 2 v3 (0 + 1 + 0) (fl (R.take 0) ++ [.int .i64 id, .slice ar L cr] ++ fl (R.drop 0)) → Below W2.drew.heap.size W2.drew z3 →
                    ∃ g c, v3 = .slice (some ⟨g, 0, none⟩) (0 + 1 + 0) c ∧ (z3.cell? ⟨F, 0, none⟩ = some (.slice none 0 0) ∧ z3.frozen? ⟨F, 0, none⟩ = false) ∧ (∃ R' Y', RD (z3.setCell ⟨F, 0, none⟩ (.slice (some ⟨g, 0, none⟩) (0 + 1 + 0) c)) Y' F R' ∧ RI (fun q j => E q j ∨ (j = id ∧ q ∈ d)) R' ∧ R'.length ≤ R.length + 1 ∧ Fr (fun k => k = F) wr (z3.setCell ⟨F, 0, none⟩ (.slice (some ⟨g, 0, none⟩) (0 + 1 + 0) c)) ∧ ∀ k, Y' k → Y k ∨ (wr.heap.size ≤ k ∧ k < (z3.setCell ⟨F, 0, none⟩ (.slice (some ⟨g, 0, none⟩) (0 + 1 + 0) c)).heap.size)) := fun z3 v3 o3 b3 =>
                  add_fin (z3 := z3) RW II.out BW.out (bZ.trans b3) hcF FF.out OS.out UR.out MR.out nE.out hK hlo.out hhi.out hlR o3
                have oneQ : ∀ u ∈ [Value.int .i64 id, .slice ar L cr], u.oneCell' = true := fun u hu => by simp at hu; rcases hu with rfl | rfl <;> rfl
                have A := ins3A (cP := 0) (cR := 0) (Q := [.int .i64 id, .slice ar L cr]) t W2.drew 35 (rP.below bZ) (rR.below bZ) rfl oneQ (by omega)
                have Bb := ins3B (cP := 0) (cR := 0) (Q := [.int .i64 id, .slice ar L cr]) t W2.drew 35 (rP.below bZ) (rR.below bZ) rfl oneQ (by omega)
                have C := ins3C (cP := 0) (cR := 0) (Q := [.int .i64 id, .slice ar L cr]) t W2.drew 35 (rP.below bZ) (rR.below bZ) rfl oneQ (by omega)
                obtain ⟨v1a, z1a, v2a, z2a, v3a, z3a, r1a, b1a, r2a, b2a, r3a, o3a, b3a⟩ := A
                obtain ⟨ga, ca, ea, ⟨k1a, k2a⟩, na⟩ := fin z3a v3a o3a b3a
                subst ea
                have Na : Aside _ := na
                have C3a : Aside _ := k1a
                have F3a : Aside _ := k2a
                have R1a : Hid _ := r1a
                have R2a : Hid _ := r2a
                have R3a : Hid _ := r3a
                clear r1a r2a r3a o3a na k1a k2a
                obtain ⟨v1b, z1b, v2b, z2b, v3b, z3b, r1b, b1b, r2b, b2b, r3b, o3b, b3b⟩ := Bb
                obtain ⟨gb, cb, eb, ⟨k1b, k2b⟩, nb⟩ := fin z3b v3b o3b b3b
                subst eb
                have Nb : Aside _ := nb
                have C3b : Aside _ := k1b
                have F3b : Aside _ := k2b
                have R1b : Hid _ := r1b
                have R2b : Hid _ := r2b
                have R3b : Hid _ := r3b
                clear r1b r2b r3b o3b nb k1b k2b
                obtain ⟨v1c, z1c, v2c, z2c, v3c, z3c, r1c, b1c, r2c, b2c, r3c, o3c, b3c⟩ := C
                obtain ⟨gc, cc, ec, ⟨k1c, k2c⟩, nc⟩ := fin z3c v3c o3c b3c
                subst ec
                have Nc : Aside _ := nc
                have C3c : Aside _ := k1c
                have F3c : Aside _ := k2c
                have R1c : Hid _ := r1c
                have R2c : Hid _ := r2c
                have R3c : Hid _ := r3c
                clear r1c r2c r3c o3c nc k1c k2c
                have bE : Below W2.drew.heap.size W2.drew (W2.drew.alloc (.cells #[] 55)) := (Below.refl _ _).alloc (Nat.le_refl _) _
                have bQ : Below W2.drew.heap.size W2.drew (W2.drew.alloc (.cells #[.int .i64 id, .slice ar L cr] 55)) := (Below.refl _ _).alloc (Nat.le_refl _) _
                have bEQ : Below W2.drew.heap.size W2.drew ((W2.drew.alloc (.cells #[] 55)).alloc (.cells #[.int .i64 id, .slice ar L cr] 55)) := bE.alloc bE.size _
                have bQE : Below W2.drew.heap.size W2.drew ((W2.drew.alloc (.cells #[.int .i64 id, .slice ar L cr] 55)).alloc (.cells #[] 55)) := bQ.alloc bQ.size _
                have bAQ : Below W2.drew.heap.size W2.drew (z1a.alloc (.cells #[.int .i64 id, .slice ar L cr] 55)) := b1a.alloc b1a.size _
                have b0 : Below W2.drew.heap.size W2.drew W2.drew := Below.refl _ _
                have KC : Aside (∀ v0, Below W2.drew.heap.size W2.drew v0 → v0.cell? ⟨F, 0, none⟩ = some (.slice none 0 0)) := fun v0 hb => by
                  have h1 : W2.drew.cell? ⟨F, 0, none⟩ = some (.slice none 0 0) := hcF
                  rw [← h1]
                  exact hb.cell (p := ⟨F, 0, none⟩) (show F < W2.heap.size by have := BW.out.size; have := FF.out; omega)
                clear fin rP rR OP OR bZ one hcF RW
                go_upto_region 15 with fail
                refine anyE_start (S := (fun v0 => v0.cell? ⟨F, 0, none⟩ = some (.slice none 0 0))) (L := 23) (by kernel_rfl) ?_
                refine anyE_take (i := 0) (oi := { dst := some 77, op := Op.move (Operand.tmp 0), type := 34, pos := "vergerref12.go:206", after := #[], guard := none }) (v := ?_) rfl (by kernel_rfl)  (by kernel_rfl) (by kernel_rfl) (by kernel_rfl) (fun _ _ _ h => h) (Or.inl ⟨by rfl, ?_⟩) (KC.out _ b0) ?_
                rotate_left
                · (intro w hSw; (try dsimp only at hSw); go_simp; try with_reducible rfl)
                simp only [Act.put, List.setIfInBounds_toArray, List.set_cons_zero, List.set_cons_succ]
                refine anyE_take (i := 2) (oi := { dst := some 79, op := Op.move (Operand.tmp 0), type := 34, pos := "vergerref12.go:206", after := #[], guard := none }) (v := ?_) rfl (by kernel_rfl)  (by kernel_rfl) (by kernel_rfl) (by kernel_rfl) (fun _ _ _ h => h) (Or.inl ⟨by rfl, ?_⟩) (KC.out _ b0) ?_
                rotate_left
                · (intro w hSw; (try dsimp only at hSw); go_simp; try with_reducible rfl)
                simp only [Act.put, List.setIfInBounds_toArray, List.set_cons_zero, List.set_cons_succ]
                refine anyE_take (i := 3) (oi := { dst := some 80, op := Op.nilCheck (Operand.tmp 79), type := 0, pos := "vergerref12.go:206", after := #[{ on := 2, ground := Ground.data }], guard := none }) (v := ?_) rfl (by kernel_rfl)  (by kernel_rfl) (by kernel_rfl) (by kernel_rfl) (fun _ _ _ h => h) (Or.inl ⟨by rfl, ?_⟩) (KC.out _ b0) ?_
                rotate_left
                · (intro w hSw; (try dsimp only at hSw); go_simp; try with_reducible rfl)
                simp only [Act.put, List.setIfInBounds_toArray, List.set_cons_zero, List.set_cons_succ]
                refine anyE_take (i := 4) (oi := { dst := some 81, op := Op.fieldAddr 37 (Operand.tmp 80) 0, type := 0, pos := "vergerref12.go:206", after := #[{ on := 3, ground := Ground.data }], guard := none }) (v := ?_) rfl (by kernel_rfl)  (by kernel_rfl) (by kernel_rfl) (by kernel_rfl) (fun _ _ _ h => h) (Or.inl ⟨by rfl, ?_⟩) (KC.out _ b0) ?_
                rotate_left
                · (intro w hSw; (try dsimp only at hSw); go_simp; try with_reducible rfl)
                simp only [Act.put, List.setIfInBounds_toArray, List.set_cons_zero, List.set_cons_succ]
                refine anyE_take (i := 5) (oi := { dst := some 82, op := Op.load 35 (Operand.tmp 81), type := 35, pos := "vergerref12.go:206", after := #[{ on := 4, ground := Ground.data }], guard := none }) (v := ?_) rfl (by kernel_rfl)  (by kernel_rfl) (by kernel_rfl) (by kernel_rfl) (fun _ _ _ h => h) (Or.inl ⟨by rfl, ?_⟩) (KC.out _ b0) ?_
                rotate_left
                · (intro w hSw; (try dsimp only at hSw); go_simp; try with_reducible rfl)
                simp only [Act.put, List.setIfInBounds_toArray, List.set_cons_zero, List.set_cons_succ]
                refine anyE_take (i := 6) (oi := { dst := some 83, op := Op.move (Operand.tmp 9), type := 3, pos := "vergerref12.go:206", after := #[], guard := none }) (v := ?_) rfl (by kernel_rfl)  (by kernel_rfl) (by kernel_rfl) (by kernel_rfl) (fun _ _ _ h => h) (Or.inl ⟨by rfl, ?_⟩) (KC.out _ b0) ?_
                rotate_left
                · (intro w hSw; (try dsimp only at hSw); go_simp; try with_reducible rfl)
                simp only [Act.put, List.setIfInBounds_toArray, List.set_cons_zero, List.set_cons_succ]
                refine anyE_take (i := 7) (oi := { dst := some 84, op := Op.slice 35 (Operand.tmp 82) none (some (Operand.tmp 83)) none, type := 35, pos := "vergerref12.go:206", after := #[{ on := 5, ground := Ground.data }, { on := 6, ground := Ground.data }], guard := none }) (v := ?_) rfl (by kernel_rfl)  (by kernel_rfl) (by kernel_rfl) (by kernel_rfl) (fun _ _ _ h => h) (Or.inl ⟨by rfl, ?_⟩) (KC.out _ b0) ?_
                rotate_left
                · (intro w hSw; (try dsimp only at hSw); go_simp; try with_reducible rfl)
                simp only [Act.put, List.setIfInBounds_toArray, List.set_cons_zero, List.set_cons_succ]
                refine anyE_take (i := 9) (oi := { dst := some 86, op := Op.move (Operand.tmp 1), type := 3, pos := "vergerref12.go:206", after := #[], guard := none }) (v := ?_) rfl (by kernel_rfl)  (by kernel_rfl) (by kernel_rfl) (by kernel_rfl) (fun _ _ _ h => h) (Or.inl ⟨by rfl, ?_⟩) (KC.out _ b0) ?_
                rotate_left
                · (intro w hSw; (try dsimp only at hSw); go_simp; try with_reducible rfl)
                simp only [Act.put, List.setIfInBounds_toArray, List.set_cons_zero, List.set_cons_succ]
                refine anyE_take (i := 10) (oi := { dst := some 87, op := Op.move (Operand.tmp 10), type := 24, pos := "vergerref12.go:206", after := #[], guard := none }) (v := ?_) rfl (by kernel_rfl)  (by kernel_rfl) (by kernel_rfl) (by kernel_rfl) (fun _ _ _ h => h) (Or.inl ⟨by rfl, ?_⟩) (KC.out _ b0) ?_
                rotate_left
                · (intro w hSw; (try dsimp only at hSw); go_simp; try with_reducible rfl)
                simp only [Act.put, List.setIfInBounds_toArray, List.set_cons_zero, List.set_cons_succ]
                refine anyE_take (i := 11) (oi := { dst := some 88, op := Op.build 55 #[(0, Operand.tmp 86), (1, Operand.tmp 87)], type := 55, pos := "vergerref12.go:206", after := #[{ on := 9, ground := Ground.data }, { on := 10, ground := Ground.data }], guard := none }) (v := ?_) rfl (by kernel_rfl)  (by kernel_rfl) (by kernel_rfl) (by kernel_rfl) (fun _ _ _ h => h) (Or.inl ⟨by rfl, ?_⟩) (KC.out _ b0) ?_
                rotate_left
                · (intro w hSw; (try dsimp only at hSw); go_simp; try with_reducible rfl)
                simp only [Act.put, List.setIfInBounds_toArray, List.set_cons_zero, List.set_cons_succ]
                refine anyE_take (i := 14) (oi := { dst := some 91, op := Op.move (Operand.tmp 0), type := 34, pos := "vergerref12.go:206", after := #[], guard := none }) (v := ?_) rfl (by kernel_rfl)  (by kernel_rfl) (by kernel_rfl) (by kernel_rfl) (fun _ _ _ h => h) (Or.inl ⟨by rfl, ?_⟩) (KC.out _ b0) ?_
                rotate_left
                · (intro w hSw; (try dsimp only at hSw); go_simp; try with_reducible rfl)
                simp only [Act.put, List.setIfInBounds_toArray, List.set_cons_zero, List.set_cons_succ]
                refine anyE_take (i := 15) (oi := { dst := some 92, op := Op.nilCheck (Operand.tmp 91), type := 0, pos := "vergerref12.go:206", after := #[{ on := 14, ground := Ground.data }], guard := none }) (v := ?_) rfl (by kernel_rfl)  (by kernel_rfl) (by kernel_rfl) (by kernel_rfl) (fun _ _ _ h => h) (Or.inl ⟨by rfl, ?_⟩) (KC.out _ b0) ?_
                rotate_left
                · (intro w hSw; (try dsimp only at hSw); go_simp; try with_reducible rfl)
                simp only [Act.put, List.setIfInBounds_toArray, List.set_cons_zero, List.set_cons_succ]
                refine anyE_take (i := 16) (oi := { dst := some 93, op := Op.fieldAddr 37 (Operand.tmp 92) 0, type := 0, pos := "vergerref12.go:206", after := #[{ on := 15, ground := Ground.data }], guard := none }) (v := ?_) rfl (by kernel_rfl)  (by kernel_rfl) (by kernel_rfl) (by kernel_rfl) (fun _ _ _ h => h) (Or.inl ⟨by rfl, ?_⟩) (KC.out _ b0) ?_
                rotate_left
                · (intro w hSw; (try dsimp only at hSw); go_simp; try with_reducible rfl)
                simp only [Act.put, List.setIfInBounds_toArray, List.set_cons_zero, List.set_cons_succ]
                refine anyE_take (i := 17) (oi := { dst := some 94, op := Op.load 35 (Operand.tmp 93), type := 35, pos := "vergerref12.go:206", after := #[{ on := 16, ground := Ground.data }], guard := none }) (v := ?_) rfl (by kernel_rfl)  (by kernel_rfl) (by kernel_rfl) (by kernel_rfl) (fun _ _ _ h => h) (Or.inl ⟨by rfl, ?_⟩) (KC.out _ b0) ?_
                rotate_left
                · (intro w hSw; (try dsimp only at hSw); go_simp; try with_reducible rfl)
                simp only [Act.put, List.setIfInBounds_toArray, List.set_cons_zero, List.set_cons_succ]
                refine anyE_take (i := 18) (oi := { dst := some 95, op := Op.move (Operand.tmp 9), type := 3, pos := "vergerref12.go:206", after := #[], guard := none }) (v := ?_) rfl (by kernel_rfl)  (by kernel_rfl) (by kernel_rfl) (by kernel_rfl) (fun _ _ _ h => h) (Or.inl ⟨by rfl, ?_⟩) (KC.out _ b0) ?_
                rotate_left
                · (intro w hSw; (try dsimp only at hSw); go_simp; try with_reducible rfl)
                simp only [Act.put, List.setIfInBounds_toArray, List.set_cons_zero, List.set_cons_succ]
                refine anyE_take (i := 19) (oi := { dst := some 96, op := Op.slice 35 (Operand.tmp 94) (some (Operand.tmp 95)) none none, type := 35, pos := "vergerref12.go:206", after := #[{ on := 17, ground := Ground.data }, { on := 18, ground := Ground.data }], guard := none }) (v := ?_) rfl (by kernel_rfl)  (by kernel_rfl) (by kernel_rfl) (by kernel_rfl) (fun _ _ _ h => h) (Or.inl ⟨by rfl, ?_⟩) (KC.out _ b0) ?_
                rotate_left
                · (intro w hSw; (try dsimp only at hSw); go_simp; try with_reducible rfl)
                simp only [Act.put, List.setIfInBounds_toArray, List.set_cons_zero, List.set_cons_succ]
                refine anyE_ready (rs := [1, 12]) (by kernel_rfl) (by simp) ?_
                refine AllE.cons (o := { dst := some 78, op := Op.buildSlice 35 0 #[], type := 35, pos := "vergerref12.go:206", after := #[], guard := none }) rfl (fun Kt hKt => ?_) ?_
                · go_simp
                  refine hKt.out _ _ (fun _ => KC.out _ bE) ?_
                  clear hKt Kt
                  try simp only [Act.put, List.setIfInBounds_toArray, List.set_cons_zero, List.set_cons_succ]
                  refine anyE_ready (rs := [8, 12]) (by kernel_rfl) (by simp) ?_
                  refine AllE.cons (o := { dst := some 85, op := Op.call { callee := Callee.builtin Builtin.append, args := #[Operand.tmp 78, Operand.tmp 84], argTypes := #[35, 35] }, type := 35, pos := "vergerref12.go:206", after := #[{ on := 1, ground := Ground.data }, { on := 7, ground := Ground.data }], guard := none }) rfl (fun Kt hKt => ?_) ?_
                  · refine step_app _ (by rfl) _ _ 35 35 (by rfl) (.slice (some ⟨W2.heap.size, 0, none⟩) 0 0) (.slice none 0 0) (by rfl) (by rfl) _ z1a R1a.out ?_
                    refine hKt.out _ _ (fun _ => KC.out _ b1a) ?_
                    clear hKt Kt
                    try simp only [Act.put, List.setIfInBounds_toArray, List.set_cons_zero, List.set_cons_succ]
                    refine anyE_ready (rs := [12]) (by kernel_rfl) (by simp) ?_
                    refine AllE.cons (o := { dst := some 89, op := Op.buildSlice 35 1 #[(0, Operand.tmp 88)], type := 35, pos := "vergerref12.go:206", after := #[{ on := 11, ground := Ground.data }], guard := none }) rfl (fun Kt hKt => ?_) ?_
                    · go_simp
                      refine hKt.out _ _ (fun _ => KC.out _ bAQ) ?_
                      clear hKt Kt
                      try simp only [Act.put, List.setIfInBounds_toArray, List.set_cons_zero, List.set_cons_succ]
                      refine anyE_ready (rs := [13]) (by kernel_rfl) (by simp) ?_
                      refine AllE.cons (o := { dst := some 90, op := Op.call { callee := Callee.builtin Builtin.append, args := #[Operand.tmp 85, Operand.tmp 89], argTypes := #[35, 35] }, type := 35, pos := "vergerref12.go:206", after := #[{ on := 8, ground := Ground.data }, { on := 12, ground := Ground.data }, { on := 8, ground := Ground.chain }], guard := none }) rfl (fun Kt hKt => ?_) ?_
                      · refine step_app _ (by rfl) _ _ 35 35 (by rfl) _ (.slice (some ⟨z1a.heap.size, 0, none⟩) 1 1) (by rfl) (by rfl) _ z2a R2a.out ?_
                        refine hKt.out _ _ (fun _ => KC.out _ b2a) ?_
                        clear hKt Kt
                        try simp only [Act.put, List.setIfInBounds_toArray, List.set_cons_zero, List.set_cons_succ]
                        refine anyE_ready (rs := [20]) (by kernel_rfl) (by simp) ?_
                        refine AllE.cons (o := { dst := some 97, op := Op.call { callee := Callee.builtin Builtin.append, args := #[Operand.tmp 90, Operand.tmp 96], argTypes := #[35, 35] }, type := 35, pos := "vergerref12.go:206", after := #[{ on := 13, ground := Ground.data }, { on := 19, ground := Ground.data }, { on := 13, ground := Ground.chain }], guard := none }) rfl (fun Kt hKt => ?_) ?_
                        · refine step_app _ (by rfl) _ _ 35 35 (by rfl) _ (.slice none 0 0) (by rfl) (by rfl) _ z3a R3a.out ?_
                          refine hKt.out _ _ (fun _ => KC.out _ b3a) ?_
                          clear hKt Kt
                          try simp only [Act.put, List.setIfInBounds_toArray, List.set_cons_zero, List.set_cons_succ]
                          refine anyF_take [22] (i := 21) (oi := { dst := some 98, op := Op.nilCheck (Operand.tmp 77), type := 0, pos := "vergerref12.go:206", after := #[{ on := 0, ground := Ground.data }, { on := 0, ground := Ground.phase }, { on := 1, ground := Ground.phase }, { on := 2, ground := Ground.phase }, { on := 3, ground := Ground.phase }, { on := 4, ground := Ground.phase }, { on := 5, ground := Ground.phase }, { on := 6, ground := Ground.phase }, { on := 7, ground := Ground.phase }, { on := 8, ground := Ground.phase }, { on := 9, ground := Ground.phase }, { on := 10, ground := Ground.phase }, { on := 11, ground := Ground.phase }, { on := 12, ground := Ground.phase }, { on := 13, ground := Ground.phase }, { on := 14, ground := Ground.phase }, { on := 15, ground := Ground.phase }, { on := 16, ground := Ground.phase }, { on := 17, ground := Ground.phase }, { on := 18, ground := Ground.phase }, { on := 19, ground := Ground.phase }, { on := 20, ground := Ground.phase }], guard := none }) (v := ?_) rfl (by kernel_rfl) (by kernel_rfl)  (by kernel_rfl) (by kernel_rfl) (by kernel_rfl) (fun _ _ _ h => h) (Or.inl ⟨by rfl, ?_⟩) (KC.out _ b3a) ?_
                          rotate_left
                          · (intro w hSw; (try dsimp only at hSw); go_simp; try with_reducible rfl)
                          simp only [Act.put, List.setIfInBounds_toArray, List.set_cons_zero, List.set_cons_succ]
                          refine anyE_take (i := 22) (oi := { dst := some 99, op := Op.fieldAddr 37 (Operand.tmp 98) 0, type := 0, pos := "vergerref12.go:206", after := #[{ on := 21, ground := Ground.data }, { on := 0, ground := Ground.phase }, { on := 1, ground := Ground.phase }, { on := 2, ground := Ground.phase }, { on := 3, ground := Ground.phase }, { on := 4, ground := Ground.phase }, { on := 5, ground := Ground.phase }, { on := 6, ground := Ground.phase }, { on := 7, ground := Ground.phase }, { on := 8, ground := Ground.phase }, { on := 9, ground := Ground.phase }, { on := 10, ground := Ground.phase }, { on := 11, ground := Ground.phase }, { on := 12, ground := Ground.phase }, { on := 13, ground := Ground.phase }, { on := 14, ground := Ground.phase }, { on := 15, ground := Ground.phase }, { on := 16, ground := Ground.phase }, { on := 17, ground := Ground.phase }, { on := 18, ground := Ground.phase }, { on := 19, ground := Ground.phase }, { on := 20, ground := Ground.phase }], guard := none }) (v := ?_) rfl (by kernel_rfl)  (by kernel_rfl) (by kernel_rfl) (by kernel_rfl) (fun _ _ _ h => h) (Or.inl ⟨by rfl, ?_⟩) (KC.out _ b3a) ?_
                          rotate_left
                          · (intro w hSw; (try dsimp only at hSw); go_simp; try with_reducible rfl)
                          simp only [Act.put, List.setIfInBounds_toArray, List.set_cons_zero, List.set_cons_succ]
                          refine anyE_ready (rs := [23]) (by kernel_rfl) (by simp) ?_
                          refine AllE.cons (o := { dst := none, op := Op.store 35 (Operand.tmp 99) (Operand.tmp 97), type := 0, pos := "vergerref12.go:206", after := #[{ on := 22, ground := Ground.data }, { on := 20, ground := Ground.data }, { on := 20, ground := Ground.chain }, { on := 0, ground := Ground.phase }, { on := 1, ground := Ground.phase }, { on := 2, ground := Ground.phase }, { on := 3, ground := Ground.phase }, { on := 4, ground := Ground.phase }, { on := 5, ground := Ground.phase }, { on := 6, ground := Ground.phase }, { on := 7, ground := Ground.phase }, { on := 8, ground := Ground.phase }, { on := 9, ground := Ground.phase }, { on := 10, ground := Ground.phase }, { on := 11, ground := Ground.phase }, { on := 12, ground := Ground.phase }, { on := 13, ground := Ground.phase }, { on := 14, ground := Ground.phase }, { on := 15, ground := Ground.phase }, { on := 16, ground := Ground.phase }, { on := 17, ground := Ground.phase }, { on := 18, ground := Ground.phase }, { on := 19, ground := Ground.phase }, { on := 20, ground := Ground.phase }], guard := none }) rfl (fun Kt hKt => ?_) ?_
                          · have cF := C3a.out
                            have fF := F3a.out
                            go_simp
                            refine hKt.out _ _ (fun h => absurd rfl h) ?_
                            clear hKt Kt
                            try simp only [Act.put, List.setIfInBounds_toArray, List.set_cons_zero, List.set_cons_succ]
                            refine anyE_done (by kernel_rfl) ?_ _
                            go_wp2_with fail
                            exact bodyPost_ret (v := .tuple #[.int .i64 L, .int .i64 0]) (by simp [results, Try.results15, go_sem]) rfl (AddIs.ok HB.out nE.out HL.out UR.out MR.out Na.out)
                          exact AllE.nil
                        exact AllE.nil
                      exact AllE.nil
                    exact AllE.nil
                  refine AllE.cons (o := { dst := some 89, op := Op.buildSlice 35 1 #[(0, Operand.tmp 88)], type := 35, pos := "vergerref12.go:206", after := #[{ on := 11, ground := Ground.data }], guard := none }) rfl (fun Kt hKt => ?_) ?_
                  · go_simp
                    refine hKt.out _ _ (fun _ => KC.out _ bEQ) ?_
                    clear hKt Kt
                    try simp only [Act.put, List.setIfInBounds_toArray, List.set_cons_zero, List.set_cons_succ]
                    refine anyE_ready (rs := [8]) (by kernel_rfl) (by simp) ?_
                    refine AllE.cons (o := { dst := some 85, op := Op.call { callee := Callee.builtin Builtin.append, args := #[Operand.tmp 78, Operand.tmp 84], argTypes := #[35, 35] }, type := 35, pos := "vergerref12.go:206", after := #[{ on := 1, ground := Ground.data }, { on := 7, ground := Ground.data }], guard := none }) rfl (fun Kt hKt => ?_) ?_
                    · refine step_app _ (by rfl) _ _ 35 35 (by rfl) (.slice (some ⟨W2.heap.size, 0, none⟩) 0 0) (.slice none 0 0) (by rfl) (by rfl) _ z1b R1b.out ?_
                      refine hKt.out _ _ (fun _ => KC.out _ b1b) ?_
                      clear hKt Kt
                      try simp only [Act.put, List.setIfInBounds_toArray, List.set_cons_zero, List.set_cons_succ]
                      refine anyE_ready (rs := [13]) (by kernel_rfl) (by simp) ?_
                      refine AllE.cons (o := { dst := some 90, op := Op.call { callee := Callee.builtin Builtin.append, args := #[Operand.tmp 85, Operand.tmp 89], argTypes := #[35, 35] }, type := 35, pos := "vergerref12.go:206", after := #[{ on := 8, ground := Ground.data }, { on := 12, ground := Ground.data }, { on := 8, ground := Ground.chain }], guard := none }) rfl (fun Kt hKt => ?_) ?_
                      · refine step_app _ (by rfl) _ _ 35 35 (by rfl) _ (.slice (some ⟨W2.heap.size + 1, 0, none⟩) 1 1) (by rfl) (by rfl) _ z2b R2b.out ?_
                        refine hKt.out _ _ (fun _ => KC.out _ b2b) ?_
                        clear hKt Kt
                        try simp only [Act.put, List.setIfInBounds_toArray, List.set_cons_zero, List.set_cons_succ]
                        refine anyE_ready (rs := [20]) (by kernel_rfl) (by simp) ?_
                        refine AllE.cons (o := { dst := some 97, op := Op.call { callee := Callee.builtin Builtin.append, args := #[Operand.tmp 90, Operand.tmp 96], argTypes := #[35, 35] }, type := 35, pos := "vergerref12.go:206", after := #[{ on := 13, ground := Ground.data }, { on := 19, ground := Ground.data }, { on := 13, ground := Ground.chain }], guard := none }) rfl (fun Kt hKt => ?_) ?_
                        · refine step_app _ (by rfl) _ _ 35 35 (by rfl) _ (.slice none 0 0) (by rfl) (by rfl) _ z3b R3b.out ?_
                          refine hKt.out _ _ (fun _ => KC.out _ b3b) ?_
                          clear hKt Kt
                          try simp only [Act.put, List.setIfInBounds_toArray, List.set_cons_zero, List.set_cons_succ]
                          refine anyF_take [22] (i := 21) (oi := { dst := some 98, op := Op.nilCheck (Operand.tmp 77), type := 0, pos := "vergerref12.go:206", after := #[{ on := 0, ground := Ground.data }, { on := 0, ground := Ground.phase }, { on := 1, ground := Ground.phase }, { on := 2, ground := Ground.phase }, { on := 3, ground := Ground.phase }, { on := 4, ground := Ground.phase }, { on := 5, ground := Ground.phase }, { on := 6, ground := Ground.phase }, { on := 7, ground := Ground.phase }, { on := 8, ground := Ground.phase }, { on := 9, ground := Ground.phase }, { on := 10, ground := Ground.phase }, { on := 11, ground := Ground.phase }, { on := 12, ground := Ground.phase }, { on := 13, ground := Ground.phase }, { on := 14, ground := Ground.phase }, { on := 15, ground := Ground.phase }, { on := 16, ground := Ground.phase }, { on := 17, ground := Ground.phase }, { on := 18, ground := Ground.phase }, { on := 19, ground := Ground.phase }, { on := 20, ground := Ground.phase }], guard := none }) (v := ?_) rfl (by kernel_rfl) (by kernel_rfl)  (by kernel_rfl) (by kernel_rfl) (by kernel_rfl) (fun _ _ _ h => h) (Or.inl ⟨by rfl, ?_⟩) (KC.out _ b3b) ?_
                          rotate_left
                          · (intro w hSw; (try dsimp only at hSw); go_simp; try with_reducible rfl)
                          simp only [Act.put, List.setIfInBounds_toArray, List.set_cons_zero, List.set_cons_succ]
                          refine anyE_take (i := 22) (oi := { dst := some 99, op := Op.fieldAddr 37 (Operand.tmp 98) 0, type := 0, pos := "vergerref12.go:206", after := #[{ on := 21, ground := Ground.data }, { on := 0, ground := Ground.phase }, { on := 1, ground := Ground.phase }, { on := 2, ground := Ground.phase }, { on := 3, ground := Ground.phase }, { on := 4, ground := Ground.phase }, { on := 5, ground := Ground.phase }, { on := 6, ground := Ground.phase }, { on := 7, ground := Ground.phase }, { on := 8, ground := Ground.phase }, { on := 9, ground := Ground.phase }, { on := 10, ground := Ground.phase }, { on := 11, ground := Ground.phase }, { on := 12, ground := Ground.phase }, { on := 13, ground := Ground.phase }, { on := 14, ground := Ground.phase }, { on := 15, ground := Ground.phase }, { on := 16, ground := Ground.phase }, { on := 17, ground := Ground.phase }, { on := 18, ground := Ground.phase }, { on := 19, ground := Ground.phase }, { on := 20, ground := Ground.phase }], guard := none }) (v := ?_) rfl (by kernel_rfl)  (by kernel_rfl) (by kernel_rfl) (by kernel_rfl) (fun _ _ _ h => h) (Or.inl ⟨by rfl, ?_⟩) (KC.out _ b3b) ?_
                          rotate_left
                          · (intro w hSw; (try dsimp only at hSw); go_simp; try with_reducible rfl)
                          simp only [Act.put, List.setIfInBounds_toArray, List.set_cons_zero, List.set_cons_succ]
                          refine anyE_ready (rs := [23]) (by kernel_rfl) (by simp) ?_
                          refine AllE.cons (o := { dst := none, op := Op.store 35 (Operand.tmp 99) (Operand.tmp 97), type := 0, pos := "vergerref12.go:206", after := #[{ on := 22, ground := Ground.data }, { on := 20, ground := Ground.data }, { on := 20, ground := Ground.chain }, { on := 0, ground := Ground.phase }, { on := 1, ground := Ground.phase }, { on := 2, ground := Ground.phase }, { on := 3, ground := Ground.phase }, { on := 4, ground := Ground.phase }, { on := 5, ground := Ground.phase }, { on := 6, ground := Ground.phase }, { on := 7, ground := Ground.phase }, { on := 8, ground := Ground.phase }, { on := 9, ground := Ground.phase }, { on := 10, ground := Ground.phase }, { on := 11, ground := Ground.phase }, { on := 12, ground := Ground.phase }, { on := 13, ground := Ground.phase }, { on := 14, ground := Ground.phase }, { on := 15, ground := Ground.phase }, { on := 16, ground := Ground.phase }, { on := 17, ground := Ground.phase }, { on := 18, ground := Ground.phase }, { on := 19, ground := Ground.phase }, { on := 20, ground := Ground.phase }], guard := none }) rfl (fun Kt hKt => ?_) ?_
                          · have cF := C3b.out
                            have fF := F3b.out
                            go_simp
                            refine hKt.out _ _ (fun h => absurd rfl h) ?_
                            clear hKt Kt
                            try simp only [Act.put, List.setIfInBounds_toArray, List.set_cons_zero, List.set_cons_succ]
                            refine anyE_done (by kernel_rfl) ?_ _
                            go_wp2_with fail
                            exact bodyPost_ret (v := .tuple #[.int .i64 L, .int .i64 0]) (by simp [results, Try.results15, go_sem]) rfl (AddIs.ok HB.out nE.out HL.out UR.out MR.out Nb.out)
                          exact AllE.nil
                        exact AllE.nil
                      exact AllE.nil
                    exact AllE.nil
                  exact AllE.nil
                refine AllE.cons (o := { dst := some 89, op := Op.buildSlice 35 1 #[(0, Operand.tmp 88)], type := 35, pos := "vergerref12.go:206", after := #[{ on := 11, ground := Ground.data }], guard := none }) rfl (fun Kt hKt => ?_) ?_
                · go_simp
                  refine hKt.out _ _ (fun _ => KC.out _ bQ) ?_
                  clear hKt Kt
                  try simp only [Act.put, List.setIfInBounds_toArray, List.set_cons_zero, List.set_cons_succ]
                  refine anyE_ready (rs := [1]) (by kernel_rfl) (by simp) ?_
                  refine AllE.cons (o := { dst := some 78, op := Op.buildSlice 35 0 #[], type := 35, pos := "vergerref12.go:206", after := #[], guard := none }) rfl (fun Kt hKt => ?_) ?_
                  · go_simp
                    refine hKt.out _ _ (fun _ => KC.out _ bQE) ?_
                    clear hKt Kt
                    try simp only [Act.put, List.setIfInBounds_toArray, List.set_cons_zero, List.set_cons_succ]
                    refine anyE_ready (rs := [8]) (by kernel_rfl) (by simp) ?_
                    refine AllE.cons (o := { dst := some 85, op := Op.call { callee := Callee.builtin Builtin.append, args := #[Operand.tmp 78, Operand.tmp 84], argTypes := #[35, 35] }, type := 35, pos := "vergerref12.go:206", after := #[{ on := 1, ground := Ground.data }, { on := 7, ground := Ground.data }], guard := none }) rfl (fun Kt hKt => ?_) ?_
                    · refine step_app _ (by rfl) _ _ 35 35 (by rfl) (.slice (some ⟨W2.heap.size + 1, 0, none⟩) 0 0) (.slice none 0 0) (by rfl) (by rfl) _ z1c R1c.out ?_
                      refine hKt.out _ _ (fun _ => KC.out _ b1c) ?_
                      clear hKt Kt
                      try simp only [Act.put, List.setIfInBounds_toArray, List.set_cons_zero, List.set_cons_succ]
                      refine anyE_ready (rs := [13]) (by kernel_rfl) (by simp) ?_
                      refine AllE.cons (o := { dst := some 90, op := Op.call { callee := Callee.builtin Builtin.append, args := #[Operand.tmp 85, Operand.tmp 89], argTypes := #[35, 35] }, type := 35, pos := "vergerref12.go:206", after := #[{ on := 8, ground := Ground.data }, { on := 12, ground := Ground.data }, { on := 8, ground := Ground.chain }], guard := none }) rfl (fun Kt hKt => ?_) ?_
                      · refine step_app _ (by rfl) _ _ 35 35 (by rfl) _ (.slice (some ⟨W2.heap.size, 0, none⟩) 1 1) (by rfl) (by rfl) _ z2c R2c.out ?_
                        refine hKt.out _ _ (fun _ => KC.out _ b2c) ?_
                        clear hKt Kt
                        try simp only [Act.put, List.setIfInBounds_toArray, List.set_cons_zero, List.set_cons_succ]
                        refine anyE_ready (rs := [20]) (by kernel_rfl) (by simp) ?_
                        refine AllE.cons (o := { dst := some 97, op := Op.call { callee := Callee.builtin Builtin.append, args := #[Operand.tmp 90, Operand.tmp 96], argTypes := #[35, 35] }, type := 35, pos := "vergerref12.go:206", after := #[{ on := 13, ground := Ground.data }, { on := 19, ground := Ground.data }, { on := 13, ground := Ground.chain }], guard := none }) rfl (fun Kt hKt => ?_) ?_
                        · refine step_app _ (by rfl) _ _ 35 35 (by rfl) _ (.slice none 0 0) (by rfl) (by rfl) _ z3c R3c.out ?_
                          refine hKt.out _ _ (fun _ => KC.out _ b3c) ?_
                          clear hKt Kt
                          try simp only [Act.put, List.setIfInBounds_toArray, List.set_cons_zero, List.set_cons_succ]
                          refine anyF_take [22] (i := 21) (oi := { dst := some 98, op := Op.nilCheck (Operand.tmp 77), type := 0, pos := "vergerref12.go:206", after := #[{ on := 0, ground := Ground.data }, { on := 0, ground := Ground.phase }, { on := 1, ground := Ground.phase }, { on := 2, ground := Ground.phase }, { on := 3, ground := Ground.phase }, { on := 4, ground := Ground.phase }, { on := 5, ground := Ground.phase }, { on := 6, ground := Ground.phase }, { on := 7, ground := Ground.phase }, { on := 8, ground := Ground.phase }, { on := 9, ground := Ground.phase }, { on := 10, ground := Ground.phase }, { on := 11, ground := Ground.phase }, { on := 12, ground := Ground.phase }, { on := 13, ground := Ground.phase }, { on := 14, ground := Ground.phase }, { on := 15, ground := Ground.phase }, { on := 16, ground := Ground.phase }, { on := 17, ground := Ground.phase }, { on := 18, ground := Ground.phase }, { on := 19, ground := Ground.phase }, { on := 20, ground := Ground.phase }], guard := none }) (v := ?_) rfl (by kernel_rfl) (by kernel_rfl)  (by kernel_rfl) (by kernel_rfl) (by kernel_rfl) (fun _ _ _ h => h) (Or.inl ⟨by rfl, ?_⟩) (KC.out _ b3c) ?_
                          rotate_left
                          · (intro w hSw; (try dsimp only at hSw); go_simp; try with_reducible rfl)
                          simp only [Act.put, List.setIfInBounds_toArray, List.set_cons_zero, List.set_cons_succ]
                          refine anyE_take (i := 22) (oi := { dst := some 99, op := Op.fieldAddr 37 (Operand.tmp 98) 0, type := 0, pos := "vergerref12.go:206", after := #[{ on := 21, ground := Ground.data }, { on := 0, ground := Ground.phase }, { on := 1, ground := Ground.phase }, { on := 2, ground := Ground.phase }, { on := 3, ground := Ground.phase }, { on := 4, ground := Ground.phase }, { on := 5, ground := Ground.phase }, { on := 6, ground := Ground.phase }, { on := 7, ground := Ground.phase }, { on := 8, ground := Ground.phase }, { on := 9, ground := Ground.phase }, { on := 10, ground := Ground.phase }, { on := 11, ground := Ground.phase }, { on := 12, ground := Ground.phase }, { on := 13, ground := Ground.phase }, { on := 14, ground := Ground.phase }, { on := 15, ground := Ground.phase }, { on := 16, ground := Ground.phase }, { on := 17, ground := Ground.phase }, { on := 18, ground := Ground.phase }, { on := 19, ground := Ground.phase }, { on := 20, ground := Ground.phase }], guard := none }) (v := ?_) rfl (by kernel_rfl)  (by kernel_rfl) (by kernel_rfl) (by kernel_rfl) (fun _ _ _ h => h) (Or.inl ⟨by rfl, ?_⟩) (KC.out _ b3c) ?_
                          rotate_left
                          · (intro w hSw; (try dsimp only at hSw); go_simp; try with_reducible rfl)
                          simp only [Act.put, List.setIfInBounds_toArray, List.set_cons_zero, List.set_cons_succ]
                          refine anyE_ready (rs := [23]) (by kernel_rfl) (by simp) ?_
                          refine AllE.cons (o := { dst := none, op := Op.store 35 (Operand.tmp 99) (Operand.tmp 97), type := 0, pos := "vergerref12.go:206", after := #[{ on := 22, ground := Ground.data }, { on := 20, ground := Ground.data }, { on := 20, ground := Ground.chain }, { on := 0, ground := Ground.phase }, { on := 1, ground := Ground.phase }, { on := 2, ground := Ground.phase }, { on := 3, ground := Ground.phase }, { on := 4, ground := Ground.phase }, { on := 5, ground := Ground.phase }, { on := 6, ground := Ground.phase }, { on := 7, ground := Ground.phase }, { on := 8, ground := Ground.phase }, { on := 9, ground := Ground.phase }, { on := 10, ground := Ground.phase }, { on := 11, ground := Ground.phase }, { on := 12, ground := Ground.phase }, { on := 13, ground := Ground.phase }, { on := 14, ground := Ground.phase }, { on := 15, ground := Ground.phase }, { on := 16, ground := Ground.phase }, { on := 17, ground := Ground.phase }, { on := 18, ground := Ground.phase }, { on := 19, ground := Ground.phase }, { on := 20, ground := Ground.phase }], guard := none }) rfl (fun Kt hKt => ?_) ?_
                          · have cF := C3c.out
                            have fF := F3c.out
                            go_simp
                            refine hKt.out _ _ (fun h => absurd rfl h) ?_
                            clear hKt Kt
                            try simp only [Act.put, List.setIfInBounds_toArray, List.set_cons_zero, List.set_cons_succ]
                            refine anyE_done (by kernel_rfl) ?_ _
                            go_wp2_with fail
                            exact bodyPost_ret (v := .tuple #[.int .i64 L, .int .i64 0]) (by simp [results, Try.results15, go_sem]) rfl (AddIs.ok HB.out nE.out HL.out UR.out MR.out Nc.out)
                          exact AllE.nil
                        exact AllE.nil
                      exact AllE.nil
                    exact AllE.nil
                  exact AllE.nil
                exact AllE.nil
              · obtain ⟨g0, hg0⟩ := shp
                subst hg0
                have OS : Aside (OwnI W2 wr.heap.size (.slice ar L cr) r ∧ r ≠ [] ∧ r.length = L) := ⟨o2, fun e => cL (by rw [← HL.out, e]; rfl), HL.out⟩
                have Lpos : 0 < L := by omega
                have hcF : W2.cell? ⟨F, 0, none⟩ = some (.slice (some ⟨g0, 0, none⟩) K rc) := by rw [← hcW]; exact b2.cell (p := ⟨F, 0, none⟩) FF.out
                have QI : IsR W2 Y (some ⟨g0, 0, none⟩) rc R := QR.out.fr (Fr.below (X := fun _ => False) b2) (fun _ _ h => h)
                have rbig : rc ≤ 9223372036854775807 := by have := QI.big; unfold maxLen at this; omega
                have rle : K ≤ rc := by have := QI.le; omega
                clear o2 b2
                by_cases cc : rc = K
                · have cc := cc.symm
                  subst cc
                  obtain ⟨t, -⟩ := tyR
                  have OP := QI.take K
                  have OR := QI.drop K (by omega)
                  rw [if_pos rfl, Nat.sub_self] at OR
                  have one : ∀ r ∈ R, r.v.oneCell' = true := fun r hr => (RW.pre r hr).one
                  have hlP : (R.take K).length = K := by simp <;> omega
                  have hlR : (R.drop K).length = 0 := by simp <;> omega
                  have rP := OP.rd (fun r hr => one r (List.mem_of_mem_take hr))
                  have rR := OR.rd (fun r hr => one r (List.mem_of_mem_drop hr))
                  rw [hlP] at rP
                  rw [hlR] at rR
                  have bZ : Below W2.heap.size W2 W2.drew := (Below.refl _ _).drew
                  have fin : ∀ (z3 : World) (v3 : Value), z3.ownsRow W2.drew.heap.size 55 2 v3 (K + 1 + 0) (fl (R.take K) ++ [.int .i64 id, .slice ar L cr] ++ fl (R.drop K)) → Below W2.drew.heap.size W2.drew z3 →
                      ∃ g c, v3 = .slice (some ⟨g, 0, none⟩) (K + 1 + 0) c ∧ (z3.cell? ⟨F, 0, none⟩ = some (.slice (some ⟨g0, 0, none⟩) K K) ∧ z3.frozen? ⟨F, 0, none⟩ = false) ∧ (∃ R' Y', RD (z3.setCell ⟨F, 0, none⟩ (.slice (some ⟨g, 0, none⟩) (K + 1 + 0) c)) Y' F R' ∧ RI (fun q j => E q j ∨ (j = id ∧ q ∈ d)) R' ∧ R'.length ≤ R.length + 1 ∧ Fr (fun k => k = F) wr (z3.setCell ⟨F, 0, none⟩ (.slice (some ⟨g, 0, none⟩) (K + 1 + 0) c)) ∧ ∀ k, Y' k → Y k ∨ (wr.heap.size ≤ k ∧ k < (z3.setCell ⟨F, 0, none⟩ (.slice (some ⟨g, 0, none⟩) (K + 1 + 0) c)).heap.size)) := fun z3 v3 o3 b3 =>
                    add_fin (z3 := z3) RW II.out BW.out (bZ.trans b3) hcF FF.out OS.out UR.out MR.out nE.out hK hlo.out hhi.out hlR o3
                  have oneQ : ∀ u ∈ [Value.int .i64 id, .slice ar L cr], u.oneCell' = true := fun u hu => by simp at hu; rcases hu with rfl | rfl <;> rfl
                  have A := ins3A (cP := K) (cR := 0) (Q := [.int .i64 id, .slice ar L cr]) t W2.drew 35 (rP.below bZ) (rR.below bZ) rfl oneQ (by omega)
                  have Bb := ins3B (cP := K) (cR := 0) (Q := [.int .i64 id, .slice ar L cr]) t W2.drew 35 (rP.below bZ) (rR.below bZ) rfl oneQ (by omega)
                  have C := ins3C (cP := K) (cR := 0) (Q := [.int .i64 id, .slice ar L cr]) t W2.drew 35 (rP.below bZ) (rR.below bZ) rfl oneQ (by omega)
                  obtain ⟨v1a, z1a, v2a, z2a, v3a, z3a, r1a, b1a, r2a, b2a, r3a, o3a, b3a⟩ := A
                  obtain ⟨ga, ca, ea, ⟨k1a, k2a⟩, na⟩ := fin z3a v3a o3a b3a
                  subst ea
                  have Na : Aside _ := na
                  have C3a : Aside _ := k1a
                  have F3a : Aside _ := k2a
                  have R1a : Hid _ := r1a
                  have R2a : Hid _ := r2a
                  have R3a : Hid _ := r3a
                  clear r1a r2a r3a o3a na k1a k2a
                  obtain ⟨v1b, z1b, v2b, z2b, v3b, z3b, r1b, b1b, r2b, b2b, r3b, o3b, b3b⟩ := Bb
                  obtain ⟨gb, cb, eb, ⟨k1b, k2b⟩, nb⟩ := fin z3b v3b o3b b3b
                  subst eb
                  have Nb : Aside _ := nb
                  have C3b : Aside _ := k1b
                  have F3b : Aside _ := k2b
                  have R1b : Hid _ := r1b
                  have R2b : Hid _ := r2b
                  have R3b : Hid _ := r3b
                  clear r1b r2b r3b o3b nb k1b k2b
                  obtain ⟨v1c, z1c, v2c, z2c, v3c, z3c, r1c, b1c, r2c, b2c, r3c, o3c, b3c⟩ := C
                  obtain ⟨gc, cc, ec, ⟨k1c, k2c⟩, nc⟩ := fin z3c v3c o3c b3c
                  subst ec
                  have Nc : Aside _ := nc
                  have C3c : Aside _ := k1c
                  have F3c : Aside _ := k2c
                  have R1c : Hid _ := r1c
                  have R2c : Hid _ := r2c
                  have R3c : Hid _ := r3c
                  clear r1c r2c r3c o3c nc k1c k2c
                  have bE : Below W2.drew.heap.size W2.drew (W2.drew.alloc (.cells #[] 55)) := (Below.refl _ _).alloc (Nat.le_refl _) _
                  have bQ : Below W2.drew.heap.size W2.drew (W2.drew.alloc (.cells #[.int .i64 id, .slice ar L cr] 55)) := (Below.refl _ _).alloc (Nat.le_refl _) _
                  have bEQ : Below W2.drew.heap.size W2.drew ((W2.drew.alloc (.cells #[] 55)).alloc (.cells #[.int .i64 id, .slice ar L cr] 55)) := bE.alloc bE.size _
                  have bQE : Below W2.drew.heap.size W2.drew ((W2.drew.alloc (.cells #[.int .i64 id, .slice ar L cr] 55)).alloc (.cells #[] 55)) := bQ.alloc bQ.size _
                  have bAQ : Below W2.drew.heap.size W2.drew (z1a.alloc (.cells #[.int .i64 id, .slice ar L cr] 55)) := b1a.alloc b1a.size _
                  have b0 : Below W2.drew.heap.size W2.drew W2.drew := Below.refl _ _
                  have KC : Aside (∀ v0, Below W2.drew.heap.size W2.drew v0 → v0.cell? ⟨F, 0, none⟩ = some (.slice (some ⟨g0, 0, none⟩) K K)) := fun v0 hb => by
                    have h1 : W2.drew.cell? ⟨F, 0, none⟩ = some (.slice (some ⟨g0, 0, none⟩) K K) := hcF
                    rw [← h1]
                    exact hb.cell (p := ⟨F, 0, none⟩) (show F < W2.heap.size by have := BW.out.size; have := FF.out; omega)
                  clear fin rP rR OP OR bZ one hcF RW
                  go_upto_region 15 with fail
                  refine anyE_start (S := (fun v0 => v0.cell? ⟨F, 0, none⟩ = some (.slice (some ⟨g0, 0, none⟩) K K))) (L := 23) (by kernel_rfl) ?_
                  refine anyE_take (i := 0) (oi := { dst := some 77, op := Op.move (Operand.tmp 0), type := 34, pos := "vergerref12.go:206", after := #[], guard := none }) (v := ?_) rfl (by kernel_rfl)  (by kernel_rfl) (by kernel_rfl) (by kernel_rfl) (fun _ _ _ h => h) (Or.inl ⟨by rfl, ?_⟩) (KC.out _ b0) ?_
                  rotate_left
                  · (intro w hSw; (try dsimp only at hSw); go_simp; try with_reducible rfl)
                  simp only [Act.put, List.setIfInBounds_toArray, List.set_cons_zero, List.set_cons_succ]
                  refine anyE_take (i := 2) (oi := { dst := some 79, op := Op.move (Operand.tmp 0), type := 34, pos := "vergerref12.go:206", after := #[], guard := none }) (v := ?_) rfl (by kernel_rfl)  (by kernel_rfl) (by kernel_rfl) (by kernel_rfl) (fun _ _ _ h => h) (Or.inl ⟨by rfl, ?_⟩) (KC.out _ b0) ?_
                  rotate_left
                  · (intro w hSw; (try dsimp only at hSw); go_simp; try with_reducible rfl)
                  simp only [Act.put, List.setIfInBounds_toArray, List.set_cons_zero, List.set_cons_succ]
                  refine anyE_take (i := 3) (oi := { dst := some 80, op := Op.nilCheck (Operand.tmp 79), type := 0, pos := "vergerref12.go:206", after := #[{ on := 2, ground := Ground.data }], guard := none }) (v := ?_) rfl (by kernel_rfl)  (by kernel_rfl) (by kernel_rfl) (by kernel_rfl) (fun _ _ _ h => h) (Or.inl ⟨by rfl, ?_⟩) (KC.out _ b0) ?_
                  rotate_left
                  · (intro w hSw; (try dsimp only at hSw); go_simp; try with_reducible rfl)
                  simp only [Act.put, List.setIfInBounds_toArray, List.set_cons_zero, List.set_cons_succ]
                  refine anyE_take (i := 4) (oi := { dst := some 81, op := Op.fieldAddr 37 (Operand.tmp 80) 0, type := 0, pos := "vergerref12.go:206", after := #[{ on := 3, ground := Ground.data }], guard := none }) (v := ?_) rfl (by kernel_rfl)  (by kernel_rfl) (by kernel_rfl) (by kernel_rfl) (fun _ _ _ h => h) (Or.inl ⟨by rfl, ?_⟩) (KC.out _ b0) ?_
                  rotate_left
                  · (intro w hSw; (try dsimp only at hSw); go_simp; try with_reducible rfl)
                  simp only [Act.put, List.setIfInBounds_toArray, List.set_cons_zero, List.set_cons_succ]
                  refine anyE_take (i := 5) (oi := { dst := some 82, op := Op.load 35 (Operand.tmp 81), type := 35, pos := "vergerref12.go:206", after := #[{ on := 4, ground := Ground.data }], guard := none }) (v := ?_) rfl (by kernel_rfl)  (by kernel_rfl) (by kernel_rfl) (by kernel_rfl) (fun _ _ _ h => h) (Or.inl ⟨by rfl, ?_⟩) (KC.out _ b0) ?_
                  rotate_left
                  · (intro w hSw; (try dsimp only at hSw); go_simp; try with_reducible rfl)
                  simp only [Act.put, List.setIfInBounds_toArray, List.set_cons_zero, List.set_cons_succ]
                  refine anyE_take (i := 6) (oi := { dst := some 83, op := Op.move (Operand.tmp 9), type := 3, pos := "vergerref12.go:206", after := #[], guard := none }) (v := ?_) rfl (by kernel_rfl)  (by kernel_rfl) (by kernel_rfl) (by kernel_rfl) (fun _ _ _ h => h) (Or.inl ⟨by rfl, ?_⟩) (KC.out _ b0) ?_
                  rotate_left
                  · (intro w hSw; (try dsimp only at hSw); go_simp; try with_reducible rfl)
                  simp only [Act.put, List.setIfInBounds_toArray, List.set_cons_zero, List.set_cons_succ]
                  refine anyE_take (i := 7) (oi := { dst := some 84, op := Op.slice 35 (Operand.tmp 82) none (some (Operand.tmp 83)) none, type := 35, pos := "vergerref12.go:206", after := #[{ on := 5, ground := Ground.data }, { on := 6, ground := Ground.data }], guard := none }) (v := ?_) rfl (by kernel_rfl)  (by kernel_rfl) (by kernel_rfl) (by kernel_rfl) (fun _ _ _ h => h) (Or.inl ⟨by rfl, ?_⟩) (KC.out _ b0) ?_
                  rotate_left
                  · (intro w hSw; (try dsimp only at hSw); go_simp; try with_reducible rfl)
                  simp only [Act.put, List.setIfInBounds_toArray, List.set_cons_zero, List.set_cons_succ]
                  refine anyE_take (i := 9) (oi := { dst := some 86, op := Op.move (Operand.tmp 1), type := 3, pos := "vergerref12.go:206", after := #[], guard := none }) (v := ?_) rfl (by kernel_rfl)  (by kernel_rfl) (by kernel_rfl) (by kernel_rfl) (fun _ _ _ h => h) (Or.inl ⟨by rfl, ?_⟩) (KC.out _ b0) ?_
                  rotate_left
                  · (intro w hSw; (try dsimp only at hSw); go_simp; try with_reducible rfl)
                  simp only [Act.put, List.setIfInBounds_toArray, List.set_cons_zero, List.set_cons_succ]
                  refine anyE_take (i := 10) (oi := { dst := some 87, op := Op.move (Operand.tmp 10), type := 24, pos := "vergerref12.go:206", after := #[], guard := none }) (v := ?_) rfl (by kernel_rfl)  (by kernel_rfl) (by kernel_rfl) (by kernel_rfl) (fun _ _ _ h => h) (Or.inl ⟨by rfl, ?_⟩) (KC.out _ b0) ?_
                  rotate_left
                  · (intro w hSw; (try dsimp only at hSw); go_simp; try with_reducible rfl)
                  simp only [Act.put, List.setIfInBounds_toArray, List.set_cons_zero, List.set_cons_succ]
                  refine anyE_take (i := 11) (oi := { dst := some 88, op := Op.build 55 #[(0, Operand.tmp 86), (1, Operand.tmp 87)], type := 55, pos := "vergerref12.go:206", after := #[{ on := 9, ground := Ground.data }, { on := 10, ground := Ground.data }], guard := none }) (v := ?_) rfl (by kernel_rfl)  (by kernel_rfl) (by kernel_rfl) (by kernel_rfl) (fun _ _ _ h => h) (Or.inl ⟨by rfl, ?_⟩) (KC.out _ b0) ?_
                  rotate_left
                  · (intro w hSw; (try dsimp only at hSw); go_simp; try with_reducible rfl)
                  simp only [Act.put, List.setIfInBounds_toArray, List.set_cons_zero, List.set_cons_succ]
                  refine anyE_take (i := 14) (oi := { dst := some 91, op := Op.move (Operand.tmp 0), type := 34, pos := "vergerref12.go:206", after := #[], guard := none }) (v := ?_) rfl (by kernel_rfl)  (by kernel_rfl) (by kernel_rfl) (by kernel_rfl) (fun _ _ _ h => h) (Or.inl ⟨by rfl, ?_⟩) (KC.out _ b0) ?_
                  rotate_left
                  · (intro w hSw; (try dsimp only at hSw); go_simp; try with_reducible rfl)
                  simp only [Act.put, List.setIfInBounds_toArray, List.set_cons_zero, List.set_cons_succ]
                  refine anyE_take (i := 15) (oi := { dst := some 92, op := Op.nilCheck (Operand.tmp 91), type := 0, pos := "vergerref12.go:206", after := #[{ on := 14, ground := Ground.data }], guard := none }) (v := ?_) rfl (by kernel_rfl)  (by kernel_rfl) (by kernel_rfl) (by kernel_rfl) (fun _ _ _ h => h) (Or.inl ⟨by rfl, ?_⟩) (KC.out _ b0) ?_
                  rotate_left
                  · (intro w hSw; (try dsimp only at hSw); go_simp; try with_reducible rfl)
                  simp only [Act.put, List.setIfInBounds_toArray, List.set_cons_zero, List.set_cons_succ]
                  refine anyE_take (i := 16) (oi := { dst := some 93, op := Op.fieldAddr 37 (Operand.tmp 92) 0, type := 0, pos := "vergerref12.go:206", after := #[{ on := 15, ground := Ground.data }], guard := none }) (v := ?_) rfl (by kernel_rfl)  (by kernel_rfl) (by kernel_rfl) (by kernel_rfl) (fun _ _ _ h => h) (Or.inl ⟨by rfl, ?_⟩) (KC.out _ b0) ?_
                  rotate_left
                  · (intro w hSw; (try dsimp only at hSw); go_simp; try with_reducible rfl)
                  simp only [Act.put, List.setIfInBounds_toArray, List.set_cons_zero, List.set_cons_succ]
                  refine anyE_take (i := 17) (oi := { dst := some 94, op := Op.load 35 (Operand.tmp 93), type := 35, pos := "vergerref12.go:206", after := #[{ on := 16, ground := Ground.data }], guard := none }) (v := ?_) rfl (by kernel_rfl)  (by kernel_rfl) (by kernel_rfl) (by kernel_rfl) (fun _ _ _ h => h) (Or.inl ⟨by rfl, ?_⟩) (KC.out _ b0) ?_
                  rotate_left
                  · (intro w hSw; (try dsimp only at hSw); go_simp; try with_reducible rfl)
                  simp only [Act.put, List.setIfInBounds_toArray, List.set_cons_zero, List.set_cons_succ]
                  refine anyE_take (i := 18) (oi := { dst := some 95, op := Op.move (Operand.tmp 9), type := 3, pos := "vergerref12.go:206", after := #[], guard := none }) (v := ?_) rfl (by kernel_rfl)  (by kernel_rfl) (by kernel_rfl) (by kernel_rfl) (fun _ _ _ h => h) (Or.inl ⟨by rfl, ?_⟩) (KC.out _ b0) ?_
                  rotate_left
                  · (intro w hSw; (try dsimp only at hSw); go_simp; try with_reducible rfl)
                  simp only [Act.put, List.setIfInBounds_toArray, List.set_cons_zero, List.set_cons_succ]
                  refine anyE_take (i := 19) (oi := { dst := some 96, op := Op.slice 35 (Operand.tmp 94) (some (Operand.tmp 95)) none none, type := 35, pos := "vergerref12.go:206", after := #[{ on := 17, ground := Ground.data }, { on := 18, ground := Ground.data }], guard := none }) (v := ?_) rfl (by kernel_rfl)  (by kernel_rfl) (by kernel_rfl) (by kernel_rfl) (fun _ _ _ h => h) (Or.inl ⟨by rfl, ?_⟩) (KC.out _ b0) ?_
                  rotate_left
                  · (intro w hSw; (try dsimp only at hSw); go_simp; try with_reducible rfl)
                  simp only [Act.put, List.setIfInBounds_toArray, List.set_cons_zero, List.set_cons_succ]
                  refine anyE_ready (rs := [1, 12]) (by kernel_rfl) (by simp) ?_
                  refine AllE.cons (o := { dst := some 78, op := Op.buildSlice 35 0 #[], type := 35, pos := "vergerref12.go:206", after := #[], guard := none }) rfl (fun Kt hKt => ?_) ?_
                  · go_simp
                    refine hKt.out _ _ (fun _ => KC.out _ bE) ?_
                    clear hKt Kt
                    try simp only [Act.put, List.setIfInBounds_toArray, List.set_cons_zero, List.set_cons_succ]
                    refine anyE_ready (rs := [8, 12]) (by kernel_rfl) (by simp) ?_
                    refine AllE.cons (o := { dst := some 85, op := Op.call { callee := Callee.builtin Builtin.append, args := #[Operand.tmp 78, Operand.tmp 84], argTypes := #[35, 35] }, type := 35, pos := "vergerref12.go:206", after := #[{ on := 1, ground := Ground.data }, { on := 7, ground := Ground.data }], guard := none }) rfl (fun Kt hKt => ?_) ?_
                    · refine step_app _ (by rfl) _ _ 35 35 (by rfl) (.slice (some ⟨W2.heap.size, 0, none⟩) 0 0) (.slice (some ⟨g0, 0, none⟩) K K) (by rfl) (by rfl) _ z1a R1a.out ?_
                      refine hKt.out _ _ (fun _ => KC.out _ b1a) ?_
                      clear hKt Kt
                      try simp only [Act.put, List.setIfInBounds_toArray, List.set_cons_zero, List.set_cons_succ]
                      refine anyE_ready (rs := [12]) (by kernel_rfl) (by simp) ?_
                      refine AllE.cons (o := { dst := some 89, op := Op.buildSlice 35 1 #[(0, Operand.tmp 88)], type := 35, pos := "vergerref12.go:206", after := #[{ on := 11, ground := Ground.data }], guard := none }) rfl (fun Kt hKt => ?_) ?_
                      · go_simp
                        refine hKt.out _ _ (fun _ => KC.out _ bAQ) ?_
                        clear hKt Kt
                        try simp only [Act.put, List.setIfInBounds_toArray, List.set_cons_zero, List.set_cons_succ]
                        refine anyE_ready (rs := [13]) (by kernel_rfl) (by simp) ?_
                        refine AllE.cons (o := { dst := some 90, op := Op.call { callee := Callee.builtin Builtin.append, args := #[Operand.tmp 85, Operand.tmp 89], argTypes := #[35, 35] }, type := 35, pos := "vergerref12.go:206", after := #[{ on := 8, ground := Ground.data }, { on := 12, ground := Ground.data }, { on := 8, ground := Ground.chain }], guard := none }) rfl (fun Kt hKt => ?_) ?_
                        · refine step_app _ (by rfl) _ _ 35 35 (by rfl) _ (.slice (some ⟨z1a.heap.size, 0, none⟩) 1 1) (by rfl) (by rfl) _ z2a R2a.out ?_
                          refine hKt.out _ _ (fun _ => KC.out _ b2a) ?_
                          clear hKt Kt
                          try simp only [Act.put, List.setIfInBounds_toArray, List.set_cons_zero, List.set_cons_succ]
                          refine anyE_ready (rs := [20]) (by kernel_rfl) (by simp) ?_
                          refine AllE.cons (o := { dst := some 97, op := Op.call { callee := Callee.builtin Builtin.append, args := #[Operand.tmp 90, Operand.tmp 96], argTypes := #[35, 35] }, type := 35, pos := "vergerref12.go:206", after := #[{ on := 13, ground := Ground.data }, { on := 19, ground := Ground.data }, { on := 13, ground := Ground.chain }], guard := none }) rfl (fun Kt hKt => ?_) ?_
                          · refine step_app _ (by rfl) _ _ 35 35 (by rfl) _ (.slice (some ⟨g0, 0, none⟩) 0 0) (by rfl) (by rfl) _ z3a R3a.out ?_
                            refine hKt.out _ _ (fun _ => KC.out _ b3a) ?_
                            clear hKt Kt
                            try simp only [Act.put, List.setIfInBounds_toArray, List.set_cons_zero, List.set_cons_succ]
                            refine anyF_take [22] (i := 21) (oi := { dst := some 98, op := Op.nilCheck (Operand.tmp 77), type := 0, pos := "vergerref12.go:206", after := #[{ on := 0, ground := Ground.data }, { on := 0, ground := Ground.phase }, { on := 1, ground := Ground.phase }, { on := 2, ground := Ground.phase }, { on := 3, ground := Ground.phase }, { on := 4, ground := Ground.phase }, { on := 5, ground := Ground.phase }, { on := 6, ground := Ground.phase }, { on := 7, ground := Ground.phase }, { on := 8, ground := Ground.phase }, { on := 9, ground := Ground.phase }, { on := 10, ground := Ground.phase }, { on := 11, ground := Ground.phase }, { on := 12, ground := Ground.phase }, { on := 13, ground := Ground.phase }, { on := 14, ground := Ground.phase }, { on := 15, ground := Ground.phase }, { on := 16, ground := Ground.phase }, { on := 17, ground := Ground.phase }, { on := 18, ground := Ground.phase }, { on := 19, ground := Ground.phase }, { on := 20, ground := Ground.phase }], guard := none }) (v := ?_) rfl (by kernel_rfl) (by kernel_rfl)  (by kernel_rfl) (by kernel_rfl) (by kernel_rfl) (fun _ _ _ h => h) (Or.inl ⟨by rfl, ?_⟩) (KC.out _ b3a) ?_
                            rotate_left
                            · (intro w hSw; (try dsimp only at hSw); go_simp; try with_reducible rfl)
                            simp only [Act.put, List.setIfInBounds_toArray, List.set_cons_zero, List.set_cons_succ]
                            refine anyE_take (i := 22) (oi := { dst := some 99, op := Op.fieldAddr 37 (Operand.tmp 98) 0, type := 0, pos := "vergerref12.go:206", after := #[{ on := 21, ground := Ground.data }, { on := 0, ground := Ground.phase }, { on := 1, ground := Ground.phase }, { on := 2, ground := Ground.phase }, { on := 3, ground := Ground.phase }, { on := 4, ground := Ground.phase }, { on := 5, ground := Ground.phase }, { on := 6, ground := Ground.phase }, { on := 7, ground := Ground.phase }, { on := 8, ground := Ground.phase }, { on := 9, ground := Ground.phase }, { on := 10, ground := Ground.phase }, { on := 11, ground := Ground.phase }, { on := 12, ground := Ground.phase }, { on := 13, ground := Ground.phase }, { on := 14, ground := Ground.phase }, { on := 15, ground := Ground.phase }, { on := 16, ground := Ground.phase }, { on := 17, ground := Ground.phase }, { on := 18, ground := Ground.phase }, { on := 19, ground := Ground.phase }, { on := 20, ground := Ground.phase }], guard := none }) (v := ?_) rfl (by kernel_rfl)  (by kernel_rfl) (by kernel_rfl) (by kernel_rfl) (fun _ _ _ h => h) (Or.inl ⟨by rfl, ?_⟩) (KC.out _ b3a) ?_
                            rotate_left
                            · (intro w hSw; (try dsimp only at hSw); go_simp; try with_reducible rfl)
                            simp only [Act.put, List.setIfInBounds_toArray, List.set_cons_zero, List.set_cons_succ]
                            refine anyE_ready (rs := [23]) (by kernel_rfl) (by simp) ?_
                            refine AllE.cons (o := { dst := none, op := Op.store 35 (Operand.tmp 99) (Operand.tmp 97), type := 0, pos := "vergerref12.go:206", after := #[{ on := 22, ground := Ground.data }, { on := 20, ground := Ground.data }, { on := 20, ground := Ground.chain }, { on := 0, ground := Ground.phase }, { on := 1, ground := Ground.phase }, { on := 2, ground := Ground.phase }, { on := 3, ground := Ground.phase }, { on := 4, ground := Ground.phase }, { on := 5, ground := Ground.phase }, { on := 6, ground := Ground.phase }, { on := 7, ground := Ground.phase }, { on := 8, ground := Ground.phase }, { on := 9, ground := Ground.phase }, { on := 10, ground := Ground.phase }, { on := 11, ground := Ground.phase }, { on := 12, ground := Ground.phase }, { on := 13, ground := Ground.phase }, { on := 14, ground := Ground.phase }, { on := 15, ground := Ground.phase }, { on := 16, ground := Ground.phase }, { on := 17, ground := Ground.phase }, { on := 18, ground := Ground.phase }, { on := 19, ground := Ground.phase }, { on := 20, ground := Ground.phase }], guard := none }) rfl (fun Kt hKt => ?_) ?_
                            · have cF := C3a.out
                              have fF := F3a.out
                              go_simp
                              refine hKt.out _ _ (fun h => absurd rfl h) ?_
                              clear hKt Kt
                              try simp only [Act.put, List.setIfInBounds_toArray, List.set_cons_zero, List.set_cons_succ]
                              refine anyE_done (by kernel_rfl) ?_ _
                              go_wp2_with fail
                              exact bodyPost_ret (v := .tuple #[.int .i64 L, .int .i64 0]) (by simp [results, Try.results15, go_sem]) rfl (AddIs.ok HB.out nE.out HL.out UR.out MR.out Na.out)
                            exact AllE.nil
                          exact AllE.nil
                        exact AllE.nil
                      exact AllE.nil
                    refine AllE.cons (o := { dst := some 89, op := Op.buildSlice 35 1 #[(0, Operand.tmp 88)], type := 35, pos := "vergerref12.go:206", after := #[{ on := 11, ground := Ground.data }], guard := none }) rfl (fun Kt hKt => ?_) ?_
                    · go_simp
                      refine hKt.out _ _ (fun _ => KC.out _ bEQ) ?_
                      clear hKt Kt
                      try simp only [Act.put, List.setIfInBounds_toArray, List.set_cons_zero, List.set_cons_succ]
                      refine anyE_ready (rs := [8]) (by kernel_rfl) (by simp) ?_
                      refine AllE.cons (o := { dst := some 85, op := Op.call { callee := Callee.builtin Builtin.append, args := #[Operand.tmp 78, Operand.tmp 84], argTypes := #[35, 35] }, type := 35, pos := "vergerref12.go:206", after := #[{ on := 1, ground := Ground.data }, { on := 7, ground := Ground.data }], guard := none }) rfl (fun Kt hKt => ?_) ?_
                      · refine step_app _ (by rfl) _ _ 35 35 (by rfl) (.slice (some ⟨W2.heap.size, 0, none⟩) 0 0) (.slice (some ⟨g0, 0, none⟩) K K) (by rfl) (by rfl) _ z1b R1b.out ?_
                        refine hKt.out _ _ (fun _ => KC.out _ b1b) ?_
                        clear hKt Kt
                        try simp only [Act.put, List.setIfInBounds_toArray, List.set_cons_zero, List.set_cons_succ]
                        refine anyE_ready (rs := [13]) (by kernel_rfl) (by simp) ?_
                        refine AllE.cons (o := { dst := some 90, op := Op.call { callee := Callee.builtin Builtin.append, args := #[Operand.tmp 85, Operand.tmp 89], argTypes := #[35, 35] }, type := 35, pos := "vergerref12.go:206", after := #[{ on := 8, ground := Ground.data }, { on := 12, ground := Ground.data }, { on := 8, ground := Ground.chain }], guard := none }) rfl (fun Kt hKt => ?_) ?_
                        · refine step_app _ (by rfl) _ _ 35 35 (by rfl) _ (.slice (some ⟨W2.heap.size + 1, 0, none⟩) 1 1) (by rfl) (by rfl) _ z2b R2b.out ?_
                          refine hKt.out _ _ (fun _ => KC.out _ b2b) ?_
                          clear hKt Kt
                          try simp only [Act.put, List.setIfInBounds_toArray, List.set_cons_zero, List.set_cons_succ]
                          refine anyE_ready (rs := [20]) (by kernel_rfl) (by simp) ?_
                          refine AllE.cons (o := { dst := some 97, op := Op.call { callee := Callee.builtin Builtin.append, args := #[Operand.tmp 90, Operand.tmp 96], argTypes := #[35, 35] }, type := 35, pos := "vergerref12.go:206", after := #[{ on := 13, ground := Ground.data }, { on := 19, ground := Ground.data }, { on := 13, ground := Ground.chain }], guard := none }) rfl (fun Kt hKt => ?_) ?_
                          · refine step_app _ (by rfl) _ _ 35 35 (by rfl) _ (.slice (some ⟨g0, 0, none⟩) 0 0) (by rfl) (by rfl) _ z3b R3b.out ?_
                            refine hKt.out _ _ (fun _ => KC.out _ b3b) ?_
                            clear hKt Kt
                            try simp only [Act.put, List.setIfInBounds_toArray, List.set_cons_zero, List.set_cons_succ]
                            refine anyF_take [22] (i := 21) (oi := { dst := some 98, op := Op.nilCheck (Operand.tmp 77), type := 0, pos := "vergerref12.go:206", after := #[{ on := 0, ground := Ground.data }, { on := 0, ground := Ground.phase }, { on := 1, ground := Ground.phase }, { on := 2, ground := Ground.phase }, { on := 3, ground := Ground.phase }, { on := 4, ground := Ground.phase }, { on := 5, ground := Ground.phase }, { on := 6, ground := Ground.phase }, { on := 7, ground := Ground.phase }, { on := 8, ground := Ground.phase }, { on := 9, ground := Ground.phase }, { on := 10, ground := Ground.phase }, { on := 11, ground := Ground.phase }, { on := 12, ground := Ground.phase }, { on := 13, ground := Ground.phase }, { on := 14, ground := Ground.phase }, { on := 15, ground := Ground.phase }, { on := 16, ground := Ground.phase }, { on := 17, ground := Ground.phase }, { on := 18, ground := Ground.phase }, { on := 19, ground := Ground.phase }, { on := 20, ground := Ground.phase }], guard := none }) (v := ?_) rfl (by kernel_rfl) (by kernel_rfl)  (by kernel_rfl) (by kernel_rfl) (by kernel_rfl) (fun _ _ _ h => h) (Or.inl ⟨by rfl, ?_⟩) (KC.out _ b3b) ?_
                            rotate_left
                            · (intro w hSw; (try dsimp only at hSw); go_simp; try with_reducible rfl)
                            simp only [Act.put, List.setIfInBounds_toArray, List.set_cons_zero, List.set_cons_succ]
                            refine anyE_take (i := 22) (oi := { dst := some 99, op := Op.fieldAddr 37 (Operand.tmp 98) 0, type := 0, pos := "vergerref12.go:206", after := #[{ on := 21, ground := Ground.data }, { on := 0, ground := Ground.phase }, { on := 1, ground := Ground.phase }, { on := 2, ground := Ground.phase }, { on := 3, ground := Ground.phase }, { on := 4, ground := Ground.phase }, { on := 5, ground := Ground.phase }, { on := 6, ground := Ground.phase }, { on := 7, ground := Ground.phase }, { on := 8, ground := Ground.phase }, { on := 9, ground := Ground.phase }, { on := 10, ground := Ground.phase }, { on := 11, ground := Ground.phase }, { on := 12, ground := Ground.phase }, { on := 13, ground := Ground.phase }, { on := 14, ground := Ground.phase }, { on := 15, ground := Ground.phase }, { on := 16, ground := Ground.phase }, { on := 17, ground := Ground.phase }, { on := 18, ground := Ground.phase }, { on := 19, ground := Ground.phase }, { on := 20, ground := Ground.phase }], guard := none }) (v := ?_) rfl (by kernel_rfl)  (by kernel_rfl) (by kernel_rfl) (by kernel_rfl) (fun _ _ _ h => h) (Or.inl ⟨by rfl, ?_⟩) (KC.out _ b3b) ?_
                            rotate_left
                            · (intro w hSw; (try dsimp only at hSw); go_simp; try with_reducible rfl)
                            simp only [Act.put, List.setIfInBounds_toArray, List.set_cons_zero, List.set_cons_succ]
                            refine anyE_ready (rs := [23]) (by kernel_rfl) (by simp) ?_
                            refine AllE.cons (o := { dst := none, op := Op.store 35 (Operand.tmp 99) (Operand.tmp 97), type := 0, pos := "vergerref12.go:206", after := #[{ on := 22, ground := Ground.data }, { on := 20, ground := Ground.data }, { on := 20, ground := Ground.chain }, { on := 0, ground := Ground.phase }, { on := 1, ground := Ground.phase }, { on := 2, ground := Ground.phase }, { on := 3, ground := Ground.phase }, { on := 4, ground := Ground.phase }, { on := 5, ground := Ground.phase }, { on := 6, ground := Ground.phase }, { on := 7, ground := Ground.phase }, { on := 8, ground := Ground.phase }, { on := 9, ground := Ground.phase }, { on := 10, ground := Ground.phase }, { on := 11, ground := Ground.phase }, { on := 12, ground := Ground.phase }, { on := 13, ground := Ground.phase }, { on := 14, ground := Ground.phase }, { on := 15, ground := Ground.phase }, { on := 16, ground := Ground.phase }, { on := 17, ground := Ground.phase }, { on := 18, ground := Ground.phase }, { on := 19, ground := Ground.phase }, { on := 20, ground := Ground.phase }], guard := none }) rfl (fun Kt hKt => ?_) ?_
                            · have cF := C3b.out
                              have fF := F3b.out
                              go_simp
                              refine hKt.out _ _ (fun h => absurd rfl h) ?_
                              clear hKt Kt
                              try simp only [Act.put, List.setIfInBounds_toArray, List.set_cons_zero, List.set_cons_succ]
                              refine anyE_done (by kernel_rfl) ?_ _
                              go_wp2_with fail
                              exact bodyPost_ret (v := .tuple #[.int .i64 L, .int .i64 0]) (by simp [results, Try.results15, go_sem]) rfl (AddIs.ok HB.out nE.out HL.out UR.out MR.out Nb.out)
                            exact AllE.nil
                          exact AllE.nil
                        exact AllE.nil
                      exact AllE.nil
                    exact AllE.nil
                  refine AllE.cons (o := { dst := some 89, op := Op.buildSlice 35 1 #[(0, Operand.tmp 88)], type := 35, pos := "vergerref12.go:206", after := #[{ on := 11, ground := Ground.data }], guard := none }) rfl (fun Kt hKt => ?_) ?_
                  · go_simp
                    refine hKt.out _ _ (fun _ => KC.out _ bQ) ?_
                    clear hKt Kt
                    try simp only [Act.put, List.setIfInBounds_toArray, List.set_cons_zero, List.set_cons_succ]
                    refine anyE_ready (rs := [1]) (by kernel_rfl) (by simp) ?_
                    refine AllE.cons (o := { dst := some 78, op := Op.buildSlice 35 0 #[], type := 35, pos := "vergerref12.go:206", after := #[], guard := none }) rfl (fun Kt hKt => ?_) ?_
                    · go_simp
                      refine hKt.out _ _ (fun _ => KC.out _ bQE) ?_
                      clear hKt Kt
                      try simp only [Act.put, List.setIfInBounds_toArray, List.set_cons_zero, List.set_cons_succ]
                      refine anyE_ready (rs := [8]) (by kernel_rfl) (by simp) ?_
                      refine AllE.cons (o := { dst := some 85, op := Op.call { callee := Callee.builtin Builtin.append, args := #[Operand.tmp 78, Operand.tmp 84], argTypes := #[35, 35] }, type := 35, pos := "vergerref12.go:206", after := #[{ on := 1, ground := Ground.data }, { on := 7, ground := Ground.data }], guard := none }) rfl (fun Kt hKt => ?_) ?_
                      · refine step_app _ (by rfl) _ _ 35 35 (by rfl) (.slice (some ⟨W2.heap.size + 1, 0, none⟩) 0 0) (.slice (some ⟨g0, 0, none⟩) K K) (by rfl) (by rfl) _ z1c R1c.out ?_
                        refine hKt.out _ _ (fun _ => KC.out _ b1c) ?_
                        clear hKt Kt
                        try simp only [Act.put, List.setIfInBounds_toArray, List.set_cons_zero, List.set_cons_succ]
                        refine anyE_ready (rs := [13]) (by kernel_rfl) (by simp) ?_
                        refine AllE.cons (o := { dst := some 90, op := Op.call { callee := Callee.builtin Builtin.append, args := #[Operand.tmp 85, Operand.tmp 89], argTypes := #[35, 35] }, type := 35, pos := "vergerref12.go:206", after := #[{ on := 8, ground := Ground.data }, { on := 12, ground := Ground.data }, { on := 8, ground := Ground.chain }], guard := none }) rfl (fun Kt hKt => ?_) ?_
                        · refine step_app _ (by rfl) _ _ 35 35 (by rfl) _ (.slice (some ⟨W2.heap.size, 0, none⟩) 1 1) (by rfl) (by rfl) _ z2c R2c.out ?_
                          refine hKt.out _ _ (fun _ => KC.out _ b2c) ?_
                          clear hKt Kt
                          try simp only [Act.put, List.setIfInBounds_toArray, List.set_cons_zero, List.set_cons_succ]
                          refine anyE_ready (rs := [20]) (by kernel_rfl) (by simp) ?_
                          refine AllE.cons (o := { dst := some 97, op := Op.call { callee := Callee.builtin Builtin.append, args := #[Operand.tmp 90, Operand.tmp 96], argTypes := #[35, 35] }, type := 35, pos := "vergerref12.go:206", after := #[{ on := 13, ground := Ground.data }, { on := 19, ground := Ground.data }, { on := 13, ground := Ground.chain }], guard := none }) rfl (fun Kt hKt => ?_) ?_
                          · refine step_app _ (by rfl) _ _ 35 35 (by rfl) _ (.slice (some ⟨g0, 0, none⟩) 0 0) (by rfl) (by rfl) _ z3c R3c.out ?_
                            refine hKt.out _ _ (fun _ => KC.out _ b3c) ?_
                            clear hKt Kt
                            try simp only [Act.put, List.setIfInBounds_toArray, List.set_cons_zero, List.set_cons_succ]
                            refine anyF_take [22] (i := 21) (oi := { dst := some 98, op := Op.nilCheck (Operand.tmp 77), type := 0, pos := "vergerref12.go:206", after := #[{ on := 0, ground := Ground.data }, { on := 0, ground := Ground.phase }, { on := 1, ground := Ground.phase }, { on := 2, ground := Ground.phase }, { on := 3, ground := Ground.phase }, { on := 4, ground := Ground.phase }, { on := 5, ground := Ground.phase }, { on := 6, ground := Ground.phase }, { on := 7, ground := Ground.phase }, { on := 8, ground := Ground.phase }, { on := 9, ground := Ground.phase }, { on := 10, ground := Ground.phase }, { on := 11, ground := Ground.phase }, { on := 12, ground := Ground.phase }, { on := 13, ground := Ground.phase }, { on := 14, ground := Ground.phase }, { on := 15, ground := Ground.phase }, { on := 16, ground := Ground.phase }, { on := 17, ground := Ground.phase }, { on := 18, ground := Ground.phase }, { on := 19, ground := Ground.phase }, { on := 20, ground := Ground.phase }], guard := none }) (v := ?_) rfl (by kernel_rfl) (by kernel_rfl)  (by kernel_rfl) (by kernel_rfl) (by kernel_rfl) (fun _ _ _ h => h) (Or.inl ⟨by rfl, ?_⟩) (KC.out _ b3c) ?_
                            rotate_left
                            · (intro w hSw; (try dsimp only at hSw); go_simp; try with_reducible rfl)
                            simp only [Act.put, List.setIfInBounds_toArray, List.set_cons_zero, List.set_cons_succ]
                            refine anyE_take (i := 22) (oi := { dst := some 99, op := Op.fieldAddr 37 (Operand.tmp 98) 0, type := 0, pos := "vergerref12.go:206", after := #[{ on := 21, ground := Ground.data }, { on := 0, ground := Ground.phase }, { on := 1, ground := Ground.phase }, { on := 2, ground := Ground.phase }, { on := 3, ground := Ground.phase }, { on := 4, ground := Ground.phase }, { on := 5, ground := Ground.phase }, { on := 6, ground := Ground.phase }, { on := 7, ground := Ground.phase }, { on := 8, ground := Ground.phase }, { on := 9, ground := Ground.phase }, { on := 10, ground := Ground.phase }, { on := 11, ground := Ground.phase }, { on := 12, ground := Ground.phase }, { on := 13, ground := Ground.phase }, { on := 14, ground := Ground.phase }, { on := 15, ground := Ground.phase }, { on := 16, ground := Ground.phase }, { on := 17, ground := Ground.phase }, { on := 18, ground := Ground.phase }, { on := 19, ground := Ground.phase }, { on := 20, ground := Ground.phase }], guard := none }) (v := ?_) rfl (by kernel_rfl)  (by kernel_rfl) (by kernel_rfl) (by kernel_rfl) (fun _ _ _ h => h) (Or.inl ⟨by rfl, ?_⟩) (KC.out _ b3c) ?_
                            rotate_left
                            · (intro w hSw; (try dsimp only at hSw); go_simp; try with_reducible rfl)
                            simp only [Act.put, List.setIfInBounds_toArray, List.set_cons_zero, List.set_cons_succ]
                            refine anyE_ready (rs := [23]) (by kernel_rfl) (by simp) ?_
                            refine AllE.cons (o := { dst := none, op := Op.store 35 (Operand.tmp 99) (Operand.tmp 97), type := 0, pos := "vergerref12.go:206", after := #[{ on := 22, ground := Ground.data }, { on := 20, ground := Ground.data }, { on := 20, ground := Ground.chain }, { on := 0, ground := Ground.phase }, { on := 1, ground := Ground.phase }, { on := 2, ground := Ground.phase }, { on := 3, ground := Ground.phase }, { on := 4, ground := Ground.phase }, { on := 5, ground := Ground.phase }, { on := 6, ground := Ground.phase }, { on := 7, ground := Ground.phase }, { on := 8, ground := Ground.phase }, { on := 9, ground := Ground.phase }, { on := 10, ground := Ground.phase }, { on := 11, ground := Ground.phase }, { on := 12, ground := Ground.phase }, { on := 13, ground := Ground.phase }, { on := 14, ground := Ground.phase }, { on := 15, ground := Ground.phase }, { on := 16, ground := Ground.phase }, { on := 17, ground := Ground.phase }, { on := 18, ground := Ground.phase }, { on := 19, ground := Ground.phase }, { on := 20, ground := Ground.phase }], guard := none }) rfl (fun Kt hKt => ?_) ?_
                            · have cF := C3c.out
                              have fF := F3c.out
                              go_simp
                              refine hKt.out _ _ (fun h => absurd rfl h) ?_
                              clear hKt Kt
                              try simp only [Act.put, List.setIfInBounds_toArray, List.set_cons_zero, List.set_cons_succ]
                              refine anyE_done (by kernel_rfl) ?_ _
                              go_wp2_with fail
                              exact bodyPost_ret (v := .tuple #[.int .i64 L, .int .i64 0]) (by simp [results, Try.results15, go_sem]) rfl (AddIs.ok HB.out nE.out HL.out UR.out MR.out Nc.out)
                            exact AllE.nil
                          exact AllE.nil
                        exact AllE.nil
                      exact AllE.nil
                    exact AllE.nil
                  exact AllE.nil
                · have cle : K ≤ rc := by omega
                  obtain ⟨t, -⟩ := tyR
                  have OP := QI.take K
                  have OR := QI.drop K (by omega)
                  rw [if_neg cc, Option.map_some, Addr.add_lit, Nat.zero_add] at OR
                  have one : ∀ r ∈ R, r.v.oneCell' = true := fun r hr => (RW.pre r hr).one
                  have hlP : (R.take K).length = K := by simp <;> omega
                  have hlR : (R.drop K).length = 0 := by simp <;> omega
                  have rP := OP.rd (fun r hr => one r (List.mem_of_mem_take hr))
                  have rR := OR.rd (fun r hr => one r (List.mem_of_mem_drop hr))
                  rw [hlP] at rP
                  rw [hlR] at rR
                  have bZ : Below W2.heap.size W2 W2.drew := (Below.refl _ _).drew
                  have fin : ∀ (z3 : World) (v3 : Value), z3.ownsRow W2.drew.heap.size 55 2 v3 (K + 1 + 0) (fl (R.take K) ++ [.int .i64 id, .slice ar L cr] ++ fl (R.drop K)) → Below W2.drew.heap.size W2.drew z3 →
                      ∃ g c, v3 = .slice (some ⟨g, 0, none⟩) (K + 1 + 0) c ∧ (z3.cell? ⟨F, 0, none⟩ = some (.slice (some ⟨g0, 0, none⟩) K rc) ∧ z3.frozen? ⟨F, 0, none⟩ = false) ∧ (∃ R' Y', RD (z3.setCell ⟨F, 0, none⟩ (.slice (some ⟨g, 0, none⟩) (K + 1 + 0) c)) Y' F R' ∧ RI (fun q j => E q j ∨ (j = id ∧ q ∈ d)) R' ∧ R'.length ≤ R.length + 1 ∧ Fr (fun k => k = F) wr (z3.setCell ⟨F, 0, none⟩ (.slice (some ⟨g, 0, none⟩) (K + 1 + 0) c)) ∧ ∀ k, Y' k → Y k ∨ (wr.heap.size ≤ k ∧ k < (z3.setCell ⟨F, 0, none⟩ (.slice (some ⟨g, 0, none⟩) (K + 1 + 0) c)).heap.size)) := fun z3 v3 o3 b3 =>
                    add_fin (z3 := z3) RW II.out BW.out (bZ.trans b3) hcF FF.out OS.out UR.out MR.out nE.out hK hlo.out hhi.out hlR o3
                  have oneQ : ∀ u ∈ [Value.int .i64 id, .slice ar L cr], u.oneCell' = true := fun u hu => by simp at hu; rcases hu with rfl | rfl <;> rfl
                  have A := ins3A (cP := rc) (cR := (rc - K)) (Q := [.int .i64 id, .slice ar L cr]) t W2.drew 35 (rP.below bZ) (rR.below bZ) rfl oneQ (by omega)
                  have Bb := ins3B (cP := rc) (cR := (rc - K)) (Q := [.int .i64 id, .slice ar L cr]) t W2.drew 35 (rP.below bZ) (rR.below bZ) rfl oneQ (by omega)
                  have C := ins3C (cP := rc) (cR := (rc - K)) (Q := [.int .i64 id, .slice ar L cr]) t W2.drew 35 (rP.below bZ) (rR.below bZ) rfl oneQ (by omega)
                  obtain ⟨v1a, z1a, v2a, z2a, v3a, z3a, r1a, b1a, r2a, b2a, r3a, o3a, b3a⟩ := A
                  obtain ⟨ga, ca, ea, ⟨k1a, k2a⟩, na⟩ := fin z3a v3a o3a b3a
                  subst ea
                  have Na : Aside _ := na
                  have C3a : Aside _ := k1a
                  have F3a : Aside _ := k2a
                  have R1a : Hid _ := r1a
                  have R2a : Hid _ := r2a
                  have R3a : Hid _ := r3a
                  clear r1a r2a r3a o3a na k1a k2a
                  obtain ⟨v1b, z1b, v2b, z2b, v3b, z3b, r1b, b1b, r2b, b2b, r3b, o3b, b3b⟩ := Bb
                  obtain ⟨gb, cb, eb, ⟨k1b, k2b⟩, nb⟩ := fin z3b v3b o3b b3b
                  subst eb
                  have Nb : Aside _ := nb
                  have C3b : Aside _ := k1b
                  have F3b : Aside _ := k2b
                  have R1b : Hid _ := r1b
                  have R2b : Hid _ := r2b
                  have R3b : Hid _ := r3b
                  clear r1b r2b r3b o3b nb k1b k2b
                  obtain ⟨v1c, z1c, v2c, z2c, v3c, z3c, r1c, b1c, r2c, b2c, r3c, o3c, b3c⟩ := C
                  obtain ⟨gc, cc, ec, ⟨k1c, k2c⟩, nc⟩ := fin z3c v3c o3c b3c
                  subst ec
                  have Nc : Aside _ := nc
                  have C3c : Aside _ := k1c
                  have F3c : Aside _ := k2c
                  have R1c : Hid _ := r1c
                  have R2c : Hid _ := r2c
                  have R3c : Hid _ := r3c
                  clear r1c r2c r3c o3c nc k1c k2c
                  have bE : Below W2.drew.heap.size W2.drew (W2.drew.alloc (.cells #[] 55)) := (Below.refl _ _).alloc (Nat.le_refl _) _
                  have bQ : Below W2.drew.heap.size W2.drew (W2.drew.alloc (.cells #[.int .i64 id, .slice ar L cr] 55)) := (Below.refl _ _).alloc (Nat.le_refl _) _
                  have bEQ : Below W2.drew.heap.size W2.drew ((W2.drew.alloc (.cells #[] 55)).alloc (.cells #[.int .i64 id, .slice ar L cr] 55)) := bE.alloc bE.size _
                  have bQE : Below W2.drew.heap.size W2.drew ((W2.drew.alloc (.cells #[.int .i64 id, .slice ar L cr] 55)).alloc (.cells #[] 55)) := bQ.alloc bQ.size _
                  have bAQ : Below W2.drew.heap.size W2.drew (z1a.alloc (.cells #[.int .i64 id, .slice ar L cr] 55)) := b1a.alloc b1a.size _
                  have b0 : Below W2.drew.heap.size W2.drew W2.drew := Below.refl _ _
                  have KC : Aside (∀ v0, Below W2.drew.heap.size W2.drew v0 → v0.cell? ⟨F, 0, none⟩ = some (.slice (some ⟨g0, 0, none⟩) K rc)) := fun v0 hb => by
                    have h1 : W2.drew.cell? ⟨F, 0, none⟩ = some (.slice (some ⟨g0, 0, none⟩) K rc) := hcF
                    rw [← h1]
                    exact hb.cell (p := ⟨F, 0, none⟩) (show F < W2.heap.size by have := BW.out.size; have := FF.out; omega)
                  clear fin rP rR OP OR bZ one hcF RW
                  go_upto_region 15 with fail
                  refine anyE_start (S := (fun v0 => v0.cell? ⟨F, 0, none⟩ = some (.slice (some ⟨g0, 0, none⟩) K rc))) (L := 23) (by kernel_rfl) ?_
                  refine anyE_take (i := 0) (oi := { dst := some 77, op := Op.move (Operand.tmp 0), type := 34, pos := "vergerref12.go:206", after := #[], guard := none }) (v := ?_) rfl (by kernel_rfl)  (by kernel_rfl) (by kernel_rfl) (by kernel_rfl) (fun _ _ _ h => h) (Or.inl ⟨by rfl, ?_⟩) (KC.out _ b0) ?_
                  rotate_left
                  · (intro w hSw; (try dsimp only at hSw); go_simp; try with_reducible rfl)
                  simp only [Act.put, List.setIfInBounds_toArray, List.set_cons_zero, List.set_cons_succ]
                  refine anyE_take (i := 2) (oi := { dst := some 79, op := Op.move (Operand.tmp 0), type := 34, pos := "vergerref12.go:206", after := #[], guard := none }) (v := ?_) rfl (by kernel_rfl)  (by kernel_rfl) (by kernel_rfl) (by kernel_rfl) (fun _ _ _ h => h) (Or.inl ⟨by rfl, ?_⟩) (KC.out _ b0) ?_
                  rotate_left
                  · (intro w hSw; (try dsimp only at hSw); go_simp; try with_reducible rfl)
                  simp only [Act.put, List.setIfInBounds_toArray, List.set_cons_zero, List.set_cons_succ]
                  refine anyE_take (i := 3) (oi := { dst := some 80, op := Op.nilCheck (Operand.tmp 79), type := 0, pos := "vergerref12.go:206", after := #[{ on := 2, ground := Ground.data }], guard := none }) (v := ?_) rfl (by kernel_rfl)  (by kernel_rfl) (by kernel_rfl) (by kernel_rfl) (fun _ _ _ h => h) (Or.inl ⟨by rfl, ?_⟩) (KC.out _ b0) ?_
                  rotate_left
                  · (intro w hSw; (try dsimp only at hSw); go_simp; try with_reducible rfl)
                  simp only [Act.put, List.setIfInBounds_toArray, List.set_cons_zero, List.set_cons_succ]
                  refine anyE_take (i := 4) (oi := { dst := some 81, op := Op.fieldAddr 37 (Operand.tmp 80) 0, type := 0, pos := "vergerref12.go:206", after := #[{ on := 3, ground := Ground.data }], guard := none }) (v := ?_) rfl (by kernel_rfl)  (by kernel_rfl) (by kernel_rfl) (by kernel_rfl) (fun _ _ _ h => h) (Or.inl ⟨by rfl, ?_⟩) (KC.out _ b0) ?_
                  rotate_left
                  · (intro w hSw; (try dsimp only at hSw); go_simp; try with_reducible rfl)
                  simp only [Act.put, List.setIfInBounds_toArray, List.set_cons_zero, List.set_cons_succ]
                  refine anyE_take (i := 5) (oi := { dst := some 82, op := Op.load 35 (Operand.tmp 81), type := 35, pos := "vergerref12.go:206", after := #[{ on := 4, ground := Ground.data }], guard := none }) (v := ?_) rfl (by kernel_rfl)  (by kernel_rfl) (by kernel_rfl) (by kernel_rfl) (fun _ _ _ h => h) (Or.inl ⟨by rfl, ?_⟩) (KC.out _ b0) ?_
                  rotate_left
                  · (intro w hSw; (try dsimp only at hSw); go_simp; try with_reducible rfl)
                  simp only [Act.put, List.setIfInBounds_toArray, List.set_cons_zero, List.set_cons_succ]
                  refine anyE_take (i := 6) (oi := { dst := some 83, op := Op.move (Operand.tmp 9), type := 3, pos := "vergerref12.go:206", after := #[], guard := none }) (v := ?_) rfl (by kernel_rfl)  (by kernel_rfl) (by kernel_rfl) (by kernel_rfl) (fun _ _ _ h => h) (Or.inl ⟨by rfl, ?_⟩) (KC.out _ b0) ?_
                  rotate_left
                  · (intro w hSw; (try dsimp only at hSw); go_simp; try with_reducible rfl)
                  simp only [Act.put, List.setIfInBounds_toArray, List.set_cons_zero, List.set_cons_succ]
                  refine anyE_take (i := 7) (oi := { dst := some 84, op := Op.slice 35 (Operand.tmp 82) none (some (Operand.tmp 83)) none, type := 35, pos := "vergerref12.go:206", after := #[{ on := 5, ground := Ground.data }, { on := 6, ground := Ground.data }], guard := none }) (v := ?_) rfl (by kernel_rfl)  (by kernel_rfl) (by kernel_rfl) (by kernel_rfl) (fun _ _ _ h => h) (Or.inl ⟨by rfl, ?_⟩) (KC.out _ b0) ?_
                  rotate_left
                  · (intro w hSw; (try dsimp only at hSw); go_simp; try with_reducible rfl)
                  simp only [Act.put, List.setIfInBounds_toArray, List.set_cons_zero, List.set_cons_succ]
                  refine anyE_take (i := 9) (oi := { dst := some 86, op := Op.move (Operand.tmp 1), type := 3, pos := "vergerref12.go:206", after := #[], guard := none }) (v := ?_) rfl (by kernel_rfl)  (by kernel_rfl) (by kernel_rfl) (by kernel_rfl) (fun _ _ _ h => h) (Or.inl ⟨by rfl, ?_⟩) (KC.out _ b0) ?_
                  rotate_left
                  · (intro w hSw; (try dsimp only at hSw); go_simp; try with_reducible rfl)
                  simp only [Act.put, List.setIfInBounds_toArray, List.set_cons_zero, List.set_cons_succ]
                  refine anyE_take (i := 10) (oi := { dst := some 87, op := Op.move (Operand.tmp 10), type := 24, pos := "vergerref12.go:206", after := #[], guard := none }) (v := ?_) rfl (by kernel_rfl)  (by kernel_rfl) (by kernel_rfl) (by kernel_rfl) (fun _ _ _ h => h) (Or.inl ⟨by rfl, ?_⟩) (KC.out _ b0) ?_
                  rotate_left
                  · (intro w hSw; (try dsimp only at hSw); go_simp; try with_reducible rfl)
                  simp only [Act.put, List.setIfInBounds_toArray, List.set_cons_zero, List.set_cons_succ]
                  refine anyE_take (i := 11) (oi := { dst := some 88, op := Op.build 55 #[(0, Operand.tmp 86), (1, Operand.tmp 87)], type := 55, pos := "vergerref12.go:206", after := #[{ on := 9, ground := Ground.data }, { on := 10, ground := Ground.data }], guard := none }) (v := ?_) rfl (by kernel_rfl)  (by kernel_rfl) (by kernel_rfl) (by kernel_rfl) (fun _ _ _ h => h) (Or.inl ⟨by rfl, ?_⟩) (KC.out _ b0) ?_
                  rotate_left
                  · (intro w hSw; (try dsimp only at hSw); go_simp; try with_reducible rfl)
                  simp only [Act.put, List.setIfInBounds_toArray, List.set_cons_zero, List.set_cons_succ]
                  refine anyE_take (i := 14) (oi := { dst := some 91, op := Op.move (Operand.tmp 0), type := 34, pos := "vergerref12.go:206", after := #[], guard := none }) (v := ?_) rfl (by kernel_rfl)  (by kernel_rfl) (by kernel_rfl) (by kernel_rfl) (fun _ _ _ h => h) (Or.inl ⟨by rfl, ?_⟩) (KC.out _ b0) ?_
                  rotate_left
                  · (intro w hSw; (try dsimp only at hSw); go_simp; try with_reducible rfl)
                  simp only [Act.put, List.setIfInBounds_toArray, List.set_cons_zero, List.set_cons_succ]
                  refine anyE_take (i := 15) (oi := { dst := some 92, op := Op.nilCheck (Operand.tmp 91), type := 0, pos := "vergerref12.go:206", after := #[{ on := 14, ground := Ground.data }], guard := none }) (v := ?_) rfl (by kernel_rfl)  (by kernel_rfl) (by kernel_rfl) (by kernel_rfl) (fun _ _ _ h => h) (Or.inl ⟨by rfl, ?_⟩) (KC.out _ b0) ?_
                  rotate_left
                  · (intro w hSw; (try dsimp only at hSw); go_simp; try with_reducible rfl)
                  simp only [Act.put, List.setIfInBounds_toArray, List.set_cons_zero, List.set_cons_succ]
                  refine anyE_take (i := 16) (oi := { dst := some 93, op := Op.fieldAddr 37 (Operand.tmp 92) 0, type := 0, pos := "vergerref12.go:206", after := #[{ on := 15, ground := Ground.data }], guard := none }) (v := ?_) rfl (by kernel_rfl)  (by kernel_rfl) (by kernel_rfl) (by kernel_rfl) (fun _ _ _ h => h) (Or.inl ⟨by rfl, ?_⟩) (KC.out _ b0) ?_
                  rotate_left
                  · (intro w hSw; (try dsimp only at hSw); go_simp; try with_reducible rfl)
                  simp only [Act.put, List.setIfInBounds_toArray, List.set_cons_zero, List.set_cons_succ]
                  refine anyE_take (i := 17) (oi := { dst := some 94, op := Op.load 35 (Operand.tmp 93), type := 35, pos := "vergerref12.go:206", after := #[{ on := 16, ground := Ground.data }], guard := none }) (v := ?_) rfl (by kernel_rfl)  (by kernel_rfl) (by kernel_rfl) (by kernel_rfl) (fun _ _ _ h => h) (Or.inl ⟨by rfl, ?_⟩) (KC.out _ b0) ?_
                  rotate_left
                  · (intro w hSw; (try dsimp only at hSw); go_simp; try with_reducible rfl)
                  simp only [Act.put, List.setIfInBounds_toArray, List.set_cons_zero, List.set_cons_succ]
                  refine anyE_take (i := 18) (oi := { dst := some 95, op := Op.move (Operand.tmp 9), type := 3, pos := "vergerref12.go:206", after := #[], guard := none }) (v := ?_) rfl (by kernel_rfl)  (by kernel_rfl) (by kernel_rfl) (by kernel_rfl) (fun _ _ _ h => h) (Or.inl ⟨by rfl, ?_⟩) (KC.out _ b0) ?_
                  rotate_left
                  · (intro w hSw; (try dsimp only at hSw); go_simp; try with_reducible rfl)
                  simp only [Act.put, List.setIfInBounds_toArray, List.set_cons_zero, List.set_cons_succ]
                  refine anyE_take (i := 19) (oi := { dst := some 96, op := Op.slice 35 (Operand.tmp 94) (some (Operand.tmp 95)) none none, type := 35, pos := "vergerref12.go:206", after := #[{ on := 17, ground := Ground.data }, { on := 18, ground := Ground.data }], guard := none }) (v := ?_) rfl (by kernel_rfl)  (by kernel_rfl) (by kernel_rfl) (by kernel_rfl) (fun _ _ _ h => h) (Or.inl ⟨by rfl, ?_⟩) (KC.out _ b0) ?_
                  rotate_left
                  · (intro w hSw; (try dsimp only at hSw); go_simp; try with_reducible rfl)
                  simp only [Act.put, List.setIfInBounds_toArray, List.set_cons_zero, List.set_cons_succ]
                  refine anyE_ready (rs := [1, 12]) (by kernel_rfl) (by simp) ?_
                  refine AllE.cons (o := { dst := some 78, op := Op.buildSlice 35 0 #[], type := 35, pos := "vergerref12.go:206", after := #[], guard := none }) rfl (fun Kt hKt => ?_) ?_
                  · go_simp
                    refine hKt.out _ _ (fun _ => KC.out _ bE) ?_
                    clear hKt Kt
                    try simp only [Act.put, List.setIfInBounds_toArray, List.set_cons_zero, List.set_cons_succ]
                    refine anyE_ready (rs := [8, 12]) (by kernel_rfl) (by simp) ?_
                    refine AllE.cons (o := { dst := some 85, op := Op.call { callee := Callee.builtin Builtin.append, args := #[Operand.tmp 78, Operand.tmp 84], argTypes := #[35, 35] }, type := 35, pos := "vergerref12.go:206", after := #[{ on := 1, ground := Ground.data }, { on := 7, ground := Ground.data }], guard := none }) rfl (fun Kt hKt => ?_) ?_
                    · refine step_app _ (by rfl) _ _ 35 35 (by rfl) (.slice (some ⟨W2.heap.size, 0, none⟩) 0 0) (.slice (some ⟨g0, 0, none⟩) K rc) (by rfl) (by rfl) _ z1a R1a.out ?_
                      refine hKt.out _ _ (fun _ => KC.out _ b1a) ?_
                      clear hKt Kt
                      try simp only [Act.put, List.setIfInBounds_toArray, List.set_cons_zero, List.set_cons_succ]
                      refine anyE_ready (rs := [12]) (by kernel_rfl) (by simp) ?_
                      refine AllE.cons (o := { dst := some 89, op := Op.buildSlice 35 1 #[(0, Operand.tmp 88)], type := 35, pos := "vergerref12.go:206", after := #[{ on := 11, ground := Ground.data }], guard := none }) rfl (fun Kt hKt => ?_) ?_
                      · go_simp
                        refine hKt.out _ _ (fun _ => KC.out _ bAQ) ?_
                        clear hKt Kt
                        try simp only [Act.put, List.setIfInBounds_toArray, List.set_cons_zero, List.set_cons_succ]
                        refine anyE_ready (rs := [13]) (by kernel_rfl) (by simp) ?_
                        refine AllE.cons (o := { dst := some 90, op := Op.call { callee := Callee.builtin Builtin.append, args := #[Operand.tmp 85, Operand.tmp 89], argTypes := #[35, 35] }, type := 35, pos := "vergerref12.go:206", after := #[{ on := 8, ground := Ground.data }, { on := 12, ground := Ground.data }, { on := 8, ground := Ground.chain }], guard := none }) rfl (fun Kt hKt => ?_) ?_
                        · refine step_app _ (by rfl) _ _ 35 35 (by rfl) _ (.slice (some ⟨z1a.heap.size, 0, none⟩) 1 1) (by rfl) (by rfl) _ z2a R2a.out ?_
                          refine hKt.out _ _ (fun _ => KC.out _ b2a) ?_
                          clear hKt Kt
                          try simp only [Act.put, List.setIfInBounds_toArray, List.set_cons_zero, List.set_cons_succ]
                          refine anyE_ready (rs := [20]) (by kernel_rfl) (by simp) ?_
                          refine AllE.cons (o := { dst := some 97, op := Op.call { callee := Callee.builtin Builtin.append, args := #[Operand.tmp 90, Operand.tmp 96], argTypes := #[35, 35] }, type := 35, pos := "vergerref12.go:206", after := #[{ on := 13, ground := Ground.data }, { on := 19, ground := Ground.data }, { on := 13, ground := Ground.chain }], guard := none }) rfl (fun Kt hKt => ?_) ?_
                          · refine step_app _ (by rfl) _ _ 35 35 (by rfl) _ (.slice (some ⟨g0, K * 2, none⟩) 0 (rc - K)) (by rfl) (by rfl) _ z3a R3a.out ?_
                            refine hKt.out _ _ (fun _ => KC.out _ b3a) ?_
                            clear hKt Kt
                            try simp only [Act.put, List.setIfInBounds_toArray, List.set_cons_zero, List.set_cons_succ]
                            refine anyF_take [22] (i := 21) (oi := { dst := some 98, op := Op.nilCheck (Operand.tmp 77), type := 0, pos := "vergerref12.go:206", after := #[{ on := 0, ground := Ground.data }, { on := 0, ground := Ground.phase }, { on := 1, ground := Ground.phase }, { on := 2, ground := Ground.phase }, { on := 3, ground := Ground.phase }, { on := 4, ground := Ground.phase }, { on := 5, ground := Ground.phase }, { on := 6, ground := Ground.phase }, { on := 7, ground := Ground.phase }, { on := 8, ground := Ground.phase }, { on := 9, ground := Ground.phase }, { on := 10, ground := Ground.phase }, { on := 11, ground := Ground.phase }, { on := 12, ground := Ground.phase }, { on := 13, ground := Ground.phase }, { on := 14, ground := Ground.phase }, { on := 15, ground := Ground.phase }, { on := 16, ground := Ground.phase }, { on := 17, ground := Ground.phase }, { on := 18, ground := Ground.phase }, { on := 19, ground := Ground.phase }, { on := 20, ground := Ground.phase }], guard := none }) (v := ?_) rfl (by kernel_rfl) (by kernel_rfl)  (by kernel_rfl) (by kernel_rfl) (by kernel_rfl) (fun _ _ _ h => h) (Or.inl ⟨by rfl, ?_⟩) (KC.out _ b3a) ?_
                            rotate_left
                            · (intro w hSw; (try dsimp only at hSw); go_simp; try with_reducible rfl)
                            simp only [Act.put, List.setIfInBounds_toArray, List.set_cons_zero, List.set_cons_succ]
                            refine anyE_take (i := 22) (oi := { dst := some 99, op := Op.fieldAddr 37 (Operand.tmp 98) 0, type := 0, pos := "vergerref12.go:206", after := #[{ on := 21, ground := Ground.data }, { on := 0, ground := Ground.phase }, { on := 1, ground := Ground.phase }, { on := 2, ground := Ground.phase }, { on := 3, ground := Ground.phase }, { on := 4, ground := Ground.phase }, { on := 5, ground := Ground.phase }, { on := 6, ground := Ground.phase }, { on := 7, ground := Ground.phase }, { on := 8, ground := Ground.phase }, { on := 9, ground := Ground.phase }, { on := 10, ground := Ground.phase }, { on := 11, ground := Ground.phase }, { on := 12, ground := Ground.phase }, { on := 13, ground := Ground.phase }, { on := 14, ground := Ground.phase }, { on := 15, ground := Ground.phase }, { on := 16, ground := Ground.phase }, { on := 17, ground := Ground.phase }, { on := 18, ground := Ground.phase }, { on := 19, ground := Ground.phase }, { on := 20, ground := Ground.phase }], guard := none }) (v := ?_) rfl (by kernel_rfl)  (by kernel_rfl) (by kernel_rfl) (by kernel_rfl) (fun _ _ _ h => h) (Or.inl ⟨by rfl, ?_⟩) (KC.out _ b3a) ?_
                            rotate_left
                            · (intro w hSw; (try dsimp only at hSw); go_simp; try with_reducible rfl)
                            simp only [Act.put, List.setIfInBounds_toArray, List.set_cons_zero, List.set_cons_succ]
                            refine anyE_ready (rs := [23]) (by kernel_rfl) (by simp) ?_
                            refine AllE.cons (o := { dst := none, op := Op.store 35 (Operand.tmp 99) (Operand.tmp 97), type := 0, pos := "vergerref12.go:206", after := #[{ on := 22, ground := Ground.data }, { on := 20, ground := Ground.data }, { on := 20, ground := Ground.chain }, { on := 0, ground := Ground.phase }, { on := 1, ground := Ground.phase }, { on := 2, ground := Ground.phase }, { on := 3, ground := Ground.phase }, { on := 4, ground := Ground.phase }, { on := 5, ground := Ground.phase }, { on := 6, ground := Ground.phase }, { on := 7, ground := Ground.phase }, { on := 8, ground := Ground.phase }, { on := 9, ground := Ground.phase }, { on := 10, ground := Ground.phase }, { on := 11, ground := Ground.phase }, { on := 12, ground := Ground.phase }, { on := 13, ground := Ground.phase }, { on := 14, ground := Ground.phase }, { on := 15, ground := Ground.phase }, { on := 16, ground := Ground.phase }, { on := 17, ground := Ground.phase }, { on := 18, ground := Ground.phase }, { on := 19, ground := Ground.phase }, { on := 20, ground := Ground.phase }], guard := none }) rfl (fun Kt hKt => ?_) ?_
                            · have cF := C3a.out
                              have fF := F3a.out
                              go_simp
                              refine hKt.out _ _ (fun h => absurd rfl h) ?_
                              clear hKt Kt
                              try simp only [Act.put, List.setIfInBounds_toArray, List.set_cons_zero, List.set_cons_succ]
                              refine anyE_done (by kernel_rfl) ?_ _
                              go_wp2_with fail
                              exact bodyPost_ret (v := .tuple #[.int .i64 L, .int .i64 0]) (by simp [results, Try.results15, go_sem]) rfl (AddIs.ok HB.out nE.out HL.out UR.out MR.out Na.out)
                            exact AllE.nil
                          exact AllE.nil
                        exact AllE.nil
                      exact AllE.nil
                    refine AllE.cons (o := { dst := some 89, op := Op.buildSlice 35 1 #[(0, Operand.tmp 88)], type := 35, pos := "vergerref12.go:206", after := #[{ on := 11, ground := Ground.data }], guard := none }) rfl (fun Kt hKt => ?_) ?_
                    · go_simp
                      refine hKt.out _ _ (fun _ => KC.out _ bEQ) ?_
                      clear hKt Kt
                      try simp only [Act.put, List.setIfInBounds_toArray, List.set_cons_zero, List.set_cons_succ]
                      refine anyE_ready (rs := [8]) (by kernel_rfl) (by simp) ?_
                      refine AllE.cons (o := { dst := some 85, op := Op.call { callee := Callee.builtin Builtin.append, args := #[Operand.tmp 78, Operand.tmp 84], argTypes := #[35, 35] }, type := 35, pos := "vergerref12.go:206", after := #[{ on := 1, ground := Ground.data }, { on := 7, ground := Ground.data }], guard := none }) rfl (fun Kt hKt => ?_) ?_
                      · refine step_app _ (by rfl) _ _ 35 35 (by rfl) (.slice (some ⟨W2.heap.size, 0, none⟩) 0 0) (.slice (some ⟨g0, 0, none⟩) K rc) (by rfl) (by rfl) _ z1b R1b.out ?_
                        refine hKt.out _ _ (fun _ => KC.out _ b1b) ?_
                        clear hKt Kt
                        try simp only [Act.put, List.setIfInBounds_toArray, List.set_cons_zero, List.set_cons_succ]
                        refine anyE_ready (rs := [13]) (by kernel_rfl) (by simp) ?_
                        refine AllE.cons (o := { dst := some 90, op := Op.call { callee := Callee.builtin Builtin.append, args := #[Operand.tmp 85, Operand.tmp 89], argTypes := #[35, 35] }, type := 35, pos := "vergerref12.go:206", after := #[{ on := 8, ground := Ground.data }, { on := 12, ground := Ground.data }, { on := 8, ground := Ground.chain }], guard := none }) rfl (fun Kt hKt => ?_) ?_
                        · refine step_app _ (by rfl) _ _ 35 35 (by rfl) _ (.slice (some ⟨W2.heap.size + 1, 0, none⟩) 1 1) (by rfl) (by rfl) _ z2b R2b.out ?_
                          refine hKt.out _ _ (fun _ => KC.out _ b2b) ?_
                          clear hKt Kt
                          try simp only [Act.put, List.setIfInBounds_toArray, List.set_cons_zero, List.set_cons_succ]
                          refine anyE_ready (rs := [20]) (by kernel_rfl) (by simp) ?_
                          refine AllE.cons (o := { dst := some 97, op := Op.call { callee := Callee.builtin Builtin.append, args := #[Operand.tmp 90, Operand.tmp 96], argTypes := #[35, 35] }, type := 35, pos := "vergerref12.go:206", after := #[{ on := 13, ground := Ground.data }, { on := 19, ground := Ground.data }, { on := 13, ground := Ground.chain }], guard := none }) rfl (fun Kt hKt => ?_) ?_
                          · refine step_app _ (by rfl) _ _ 35 35 (by rfl) _ (.slice (some ⟨g0, K * 2, none⟩) 0 (rc - K)) (by rfl) (by rfl) _ z3b R3b.out ?_
                            refine hKt.out _ _ (fun _ => KC.out _ b3b) ?_
                            clear hKt Kt
                            try simp only [Act.put, List.setIfInBounds_toArray, List.set_cons_zero, List.set_cons_succ]
                            refine anyF_take [22] (i := 21) (oi := { dst := some 98, op := Op.nilCheck (Operand.tmp 77), type := 0, pos := "vergerref12.go:206", after := #[{ on := 0, ground := Ground.data }, { on := 0, ground := Ground.phase }, { on := 1, ground := Ground.phase }, { on := 2, ground := Ground.phase }, { on := 3, ground := Ground.phase }, { on := 4, ground := Ground.phase }, { on := 5, ground := Ground.phase }, { on := 6, ground := Ground.phase }, { on := 7, ground := Ground.phase }, { on := 8, ground := Ground.phase }, { on := 9, ground := Ground.phase }, { on := 10, ground := Ground.phase }, { on := 11, ground := Ground.phase }, { on := 12, ground := Ground.phase }, { on := 13, ground := Ground.phase }, { on := 14, ground := Ground.phase }, { on := 15, ground := Ground.phase }, { on := 16, ground := Ground.phase }, { on := 17, ground := Ground.phase }, { on := 18, ground := Ground.phase }, { on := 19, ground := Ground.phase }, { on := 20, ground := Ground.phase }], guard := none }) (v := ?_) rfl (by kernel_rfl) (by kernel_rfl)  (by kernel_rfl) (by kernel_rfl) (by kernel_rfl) (fun _ _ _ h => h) (Or.inl ⟨by rfl, ?_⟩) (KC.out _ b3b) ?_
                            rotate_left
                            · (intro w hSw; (try dsimp only at hSw); go_simp; try with_reducible rfl)
                            simp only [Act.put, List.setIfInBounds_toArray, List.set_cons_zero, List.set_cons_succ]
                            refine anyE_take (i := 22) (oi := { dst := some 99, op := Op.fieldAddr 37 (Operand.tmp 98) 0, type := 0, pos := "vergerref12.go:206", after := #[{ on := 21, ground := Ground.data }, { on := 0, ground := Ground.phase }, { on := 1, ground := Ground.phase }, { on := 2, ground := Ground.phase }, { on := 3, ground := Ground.phase }, { on := 4, ground := Ground.phase }, { on := 5, ground := Ground.phase }, { on := 6, ground := Ground.phase }, { on := 7, ground := Ground.phase }, { on := 8, ground := Ground.phase }, { on := 9, ground := Ground.phase }, { on := 10, ground := Ground.phase }, { on := 11, ground := Ground.phase }, { on := 12, ground := Ground.phase }, { on := 13, ground := Ground.phase }, { on := 14, ground := Ground.phase }, { on := 15, ground := Ground.phase }, { on := 16, ground := Ground.phase }, { on := 17, ground := Ground.phase }, { on := 18, ground := Ground.phase }, { on := 19, ground := Ground.phase }, { on := 20, ground := Ground.phase }], guard := none }) (v := ?_) rfl (by kernel_rfl)  (by kernel_rfl) (by kernel_rfl) (by kernel_rfl) (fun _ _ _ h => h) (Or.inl ⟨by rfl, ?_⟩) (KC.out _ b3b) ?_
                            rotate_left
                            · (intro w hSw; (try dsimp only at hSw); go_simp; try with_reducible rfl)
                            simp only [Act.put, List.setIfInBounds_toArray, List.set_cons_zero, List.set_cons_succ]
                            refine anyE_ready (rs := [23]) (by kernel_rfl) (by simp) ?_
                            refine AllE.cons (o := { dst := none, op := Op.store 35 (Operand.tmp 99) (Operand.tmp 97), type := 0, pos := "vergerref12.go:206", after := #[{ on := 22, ground := Ground.data }, { on := 20, ground := Ground.data }, { on := 20, ground := Ground.chain }, { on := 0, ground := Ground.phase }, { on := 1, ground := Ground.phase }, { on := 2, ground := Ground.phase }, { on := 3, ground := Ground.phase }, { on := 4, ground := Ground.phase }, { on := 5, ground := Ground.phase }, { on := 6, ground := Ground.phase }, { on := 7, ground := Ground.phase }, { on := 8, ground := Ground.phase }, { on := 9, ground := Ground.phase }, { on := 10, ground := Ground.phase }, { on := 11, ground := Ground.phase }, { on := 12, ground := Ground.phase }, { on := 13, ground := Ground.phase }, { on := 14, ground := Ground.phase }, { on := 15, ground := Ground.phase }, { on := 16, ground := Ground.phase }, { on := 17, ground := Ground.phase }, { on := 18, ground := Ground.phase }, { on := 19, ground := Ground.phase }, { on := 20, ground := Ground.phase }], guard := none }) rfl (fun Kt hKt => ?_) ?_
                            · have cF := C3b.out
                              have fF := F3b.out
                              go_simp
                              refine hKt.out _ _ (fun h => absurd rfl h) ?_
                              clear hKt Kt
                              try simp only [Act.put, List.setIfInBounds_toArray, List.set_cons_zero, List.set_cons_succ]
                              refine anyE_done (by kernel_rfl) ?_ _
                              go_wp2_with fail
                              exact bodyPost_ret (v := .tuple #[.int .i64 L, .int .i64 0]) (by simp [results, Try.results15, go_sem]) rfl (AddIs.ok HB.out nE.out HL.out UR.out MR.out Nb.out)
                            exact AllE.nil
                          exact AllE.nil
                        exact AllE.nil
                      exact AllE.nil
                    exact AllE.nil
                  refine AllE.cons (o := { dst := some 89, op := Op.buildSlice 35 1 #[(0, Operand.tmp 88)], type := 35, pos := "vergerref12.go:206", after := #[{ on := 11, ground := Ground.data }], guard := none }) rfl (fun Kt hKt => ?_) ?_
                  · go_simp
                    refine hKt.out _ _ (fun _ => KC.out _ bQ) ?_
                    clear hKt Kt
                    try simp only [Act.put, List.setIfInBounds_toArray, List.set_cons_zero, List.set_cons_succ]
                    refine anyE_ready (rs := [1]) (by kernel_rfl) (by simp) ?_
                    refine AllE.cons (o := { dst := some 78, op := Op.buildSlice 35 0 #[], type := 35, pos := "vergerref12.go:206", after := #[], guard := none }) rfl (fun Kt hKt => ?_) ?_
                    · go_simp
                      refine hKt.out _ _ (fun _ => KC.out _ bQE) ?_
                      clear hKt Kt
                      try simp only [Act.put, List.setIfInBounds_toArray, List.set_cons_zero, List.set_cons_succ]
                      refine anyE_ready (rs := [8]) (by kernel_rfl) (by simp) ?_
                      refine AllE.cons (o := { dst := some 85, op := Op.call { callee := Callee.builtin Builtin.append, args := #[Operand.tmp 78, Operand.tmp 84], argTypes := #[35, 35] }, type := 35, pos := "vergerref12.go:206", after := #[{ on := 1, ground := Ground.data }, { on := 7, ground := Ground.data }], guard := none }) rfl (fun Kt hKt => ?_) ?_
                      · refine step_app _ (by rfl) _ _ 35 35 (by rfl) (.slice (some ⟨W2.heap.size + 1, 0, none⟩) 0 0) (.slice (some ⟨g0, 0, none⟩) K rc) (by rfl) (by rfl) _ z1c R1c.out ?_
                        refine hKt.out _ _ (fun _ => KC.out _ b1c) ?_
                        clear hKt Kt
                        try simp only [Act.put, List.setIfInBounds_toArray, List.set_cons_zero, List.set_cons_succ]
                        refine anyE_ready (rs := [13]) (by kernel_rfl) (by simp) ?_
                        refine AllE.cons (o := { dst := some 90, op := Op.call { callee := Callee.builtin Builtin.append, args := #[Operand.tmp 85, Operand.tmp 89], argTypes := #[35, 35] }, type := 35, pos := "vergerref12.go:206", after := #[{ on := 8, ground := Ground.data }, { on := 12, ground := Ground.data }, { on := 8, ground := Ground.chain }], guard := none }) rfl (fun Kt hKt => ?_) ?_
                        · refine step_app _ (by rfl) _ _ 35 35 (by rfl) _ (.slice (some ⟨W2.heap.size, 0, none⟩) 1 1) (by rfl) (by rfl) _ z2c R2c.out ?_
                          refine hKt.out _ _ (fun _ => KC.out _ b2c) ?_
                          clear hKt Kt
                          try simp only [Act.put, List.setIfInBounds_toArray, List.set_cons_zero, List.set_cons_succ]
                          refine anyE_ready (rs := [20]) (by kernel_rfl) (by simp) ?_
                          refine AllE.cons (o := { dst := some 97, op := Op.call { callee := Callee.builtin Builtin.append, args := #[Operand.tmp 90, Operand.tmp 96], argTypes := #[35, 35] }, type := 35, pos := "vergerref12.go:206", after := #[{ on := 13, ground := Ground.data }, { on := 19, ground := Ground.data }, { on := 13, ground := Ground.chain }], guard := none }) rfl (fun Kt hKt => ?_) ?_
                          · refine step_app _ (by rfl) _ _ 35 35 (by rfl) _ (.slice (some ⟨g0, K * 2, none⟩) 0 (rc - K)) (by rfl) (by rfl) _ z3c R3c.out ?_
                            refine hKt.out _ _ (fun _ => KC.out _ b3c) ?_
                            clear hKt Kt
                            try simp only [Act.put, List.setIfInBounds_toArray, List.set_cons_zero, List.set_cons_succ]
                            refine anyF_take [22] (i := 21) (oi := { dst := some 98, op := Op.nilCheck (Operand.tmp 77), type := 0, pos := "vergerref12.go:206", after := #[{ on := 0, ground := Ground.data }, { on := 0, ground := Ground.phase }, { on := 1, ground := Ground.phase }, { on := 2, ground := Ground.phase }, { on := 3, ground := Ground.phase }, { on := 4, ground := Ground.phase }, { on := 5, ground := Ground.phase }, { on := 6, ground := Ground.phase }, { on := 7, ground := Ground.phase }, { on := 8, ground := Ground.phase }, { on := 9, ground := Ground.phase }, { on := 10, ground := Ground.phase }, { on := 11, ground := Ground.phase }, { on := 12, ground := Ground.phase }, { on := 13, ground := Ground.phase }, { on := 14, ground := Ground.phase }, { on := 15, ground := Ground.phase }, { on := 16, ground := Ground.phase }, { on := 17, ground := Ground.phase }, { on := 18, ground := Ground.phase }, { on := 19, ground := Ground.phase }, { on := 20, ground := Ground.phase }], guard := none }) (v := ?_) rfl (by kernel_rfl) (by kernel_rfl)  (by kernel_rfl) (by kernel_rfl) (by kernel_rfl) (fun _ _ _ h => h) (Or.inl ⟨by rfl, ?_⟩) (KC.out _ b3c) ?_
                            rotate_left
                            · (intro w hSw; (try dsimp only at hSw); go_simp; try with_reducible rfl)
                            simp only [Act.put, List.setIfInBounds_toArray, List.set_cons_zero, List.set_cons_succ]
                            refine anyE_take (i := 22) (oi := { dst := some 99, op := Op.fieldAddr 37 (Operand.tmp 98) 0, type := 0, pos := "vergerref12.go:206", after := #[{ on := 21, ground := Ground.data }, { on := 0, ground := Ground.phase }, { on := 1, ground := Ground.phase }, { on := 2, ground := Ground.phase }, { on := 3, ground := Ground.phase }, { on := 4, ground := Ground.phase }, { on := 5, ground := Ground.phase }, { on := 6, ground := Ground.phase }, { on := 7, ground := Ground.phase }, { on := 8, ground := Ground.phase }, { on := 9, ground := Ground.phase }, { on := 10, ground := Ground.phase }, { on := 11, ground := Ground.phase }, { on := 12, ground := Ground.phase }, { on := 13, ground := Ground.phase }, { on := 14, ground := Ground.phase }, { on := 15, ground := Ground.phase }, { on := 16, ground := Ground.phase }, { on := 17, ground := Ground.phase }, { on := 18, ground := Ground.phase }, { on := 19, ground := Ground.phase }, { on := 20, ground := Ground.phase }], guard := none }) (v := ?_) rfl (by kernel_rfl)  (by kernel_rfl) (by kernel_rfl) (by kernel_rfl) (fun _ _ _ h => h) (Or.inl ⟨by rfl, ?_⟩) (KC.out _ b3c) ?_
                            rotate_left
                            · (intro w hSw; (try dsimp only at hSw); go_simp; try with_reducible rfl)
                            simp only [Act.put, List.setIfInBounds_toArray, List.set_cons_zero, List.set_cons_succ]
                            refine anyE_ready (rs := [23]) (by kernel_rfl) (by simp) ?_
                            refine AllE.cons (o := { dst := none, op := Op.store 35 (Operand.tmp 99) (Operand.tmp 97), type := 0, pos := "vergerref12.go:206", after := #[{ on := 22, ground := Ground.data }, { on := 20, ground := Ground.data }, { on := 20, ground := Ground.chain }, { on := 0, ground := Ground.phase }, { on := 1, ground := Ground.phase }, { on := 2, ground := Ground.phase }, { on := 3, ground := Ground.phase }, { on := 4, ground := Ground.phase }, { on := 5, ground := Ground.phase }, { on := 6, ground := Ground.phase }, { on := 7, ground := Ground.phase }, { on := 8, ground := Ground.phase }, { on := 9, ground := Ground.phase }, { on := 10, ground := Ground.phase }, { on := 11, ground := Ground.phase }, { on := 12, ground := Ground.phase }, { on := 13, ground := Ground.phase }, { on := 14, ground := Ground.phase }, { on := 15, ground := Ground.phase }, { on := 16, ground := Ground.phase }, { on := 17, ground := Ground.phase }, { on := 18, ground := Ground.phase }, { on := 19, ground := Ground.phase }, { on := 20, ground := Ground.phase }], guard := none }) rfl (fun Kt hKt => ?_) ?_
                            · have cF := C3c.out
                              have fF := F3c.out
                              go_simp
                              refine hKt.out _ _ (fun h => absurd rfl h) ?_
                              clear hKt Kt
                              try simp only [Act.put, List.setIfInBounds_toArray, List.set_cons_zero, List.set_cons_succ]
                              refine anyE_done (by kernel_rfl) ?_ _
                              go_wp2_with fail
                              exact bodyPost_ret (v := .tuple #[.int .i64 L, .int .i64 0]) (by simp [results, Try.results15, go_sem]) rfl (AddIs.ok HB.out nE.out HL.out UR.out MR.out Nc.out)
                            exact AllE.nil
                          exact AllE.nil
                        exact AllE.nil
                      exact AllE.nil
                    exact AllE.nil
                  exact AllE.nil
end Go.Proofs.Ythpdnlokjhafeaa
