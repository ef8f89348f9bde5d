/- The document's Kill: its walk. -/
import Derived.Test.YthpdnlokjhafeaaDrK
namespace Go.Proofs.Ythpdnlokjhafeaa
open Go.RowKit Go.Lib
set_option linter.unusedVariables false
variable {w : World} {Y : Nat → Prop} {F : Nat} {R : List Rw} {E : Rel} {id : Int}
def KillIs (w : World) (Y : Nat → Prop) (F : Nat) (R : List Rw) (E : Rel) (id : Int) (e : Ending) (w' : World) : Prop :=
  ∃ v d R' Y', e = .returned v ∧ OwnI w' w.heap.size v d ∧ Up d ∧ (∀ j, j ∈ d ↔ Rch E id j) ∧ RD w' Y' F R' ∧ RI (fun q j => E q j ∧ j ≠ id ∧ ¬ Rch E id j) R' ∧ R'.length ≤ R.length ∧ Fr (fun k => k = F) w w' ∧ ∀ k, Y' k → Y k ∨ (w.heap.size ≤ k ∧ k < w'.heap.size)
/-- One more row at the end of a slice of the call's own. -/
theorem OwnR.push {b : Nat} {v : Value} {C : List Rw} (o : OwnR w b v C) (r : Rw) (h1 : r.v.oneCell' = true) (hd : C.length < 100000) (hb : b ≤ w.heap.size) : ∃ v' w', (Builtin.append_ #[35, 35] 35 #[v, .slice (some ⟨w.heap.size, 0, none⟩) 1 1]).run Try.prog (w.alloc (.cells #[.int .i64 r.id, r.v] 55)) = .ok v' w' ∧ OwnR w' b v' (C ++ [r]) ∧
      Fr (fun k => v.ownBlock = some k) w w' ∧ ∀ k, v'.ownBlock = some k → v.ownBlock = some k ∨ w.heap.size ≤ k := by
  have b1 : Below w.heap.size w (w.alloc (.cells #[.int .i64 r.id, r.v] 55)) := (Below.refl _ _).alloc (Nat.le_refl _) _
  obtain ⟨a1, c1, e1, q1⟩ := (OwnR.one (base := 0) w r (Nat.zero_le _)).isR (Y := fun _ => True) (fun _ _ => trivial)
  injection e1 with e11 e12 e13
  subst e11 e13
  obtain ⟨v', w', hr, o', g, n⟩ := appR (o.below b1) q1 (fun s hs => by simp at hs; rw [hs]; exact h1) (by simp; omega) (by have := b1.size; omega) 35
  exact ⟨v', w', hr, o', (Fr.below b1).trans (Fr.of_grown g) (fun j hj => .inl hj), fun k hk => (n k hk).imp (fun h => h) (fun e => by have := b1.size; omega)⟩
/-- Its rows are put anew. -/
theorem RD.put {wr : World} {S : Nat} {vr : Value} {R1 : List Rw} {Y1 : Nat → Prop} (RW : RD wr Y F R) (OR : OwnR wr S vr R1) (pre1 : ∀ r ∈ R1, Sl wr Y1 r.v r.ps) (hF1 : ¬ Y1 F) :
    RD (wr.setCell ⟨F, 0, none⟩ vr) (fun k => Y1 k ∨ vr.ownBlock = some k) F R1 ∧ Fr (fun k => k = F) wr (wr.setCell ⟨F, 0, none⟩ vr) ∧ wr.frozen? ⟨F, 0, none⟩ = false := by
  obtain ⟨ah, ch, eh, _⟩ := RW.head
  have FSt : Fr (fun k => k = F) wr (wr.setCell ⟨F, 0, none⟩ vr) := Fr.setCell _ _ _ _ _ rfl
  have nF : ∀ k, vr.ownBlock = some k → k ≠ F := fun k hk e => by
    obtain ⟨cs, e1⟩ := OR.rowT hk
    rw [e, eh] at e1
    simp only [Option.some.injEq, Obj.cells.injEq] at e1
    exact absurd e1.2.1 (by decide)
  have o4 : OwnR (wr.setCell ⟨F, 0, none⟩ vr) S vr R1 := OR.fr FSt nF
  obtain ⟨a4, c4, e4, sh⟩ := OR.shape
  obtain ⟨a5, c5, e5, q5⟩ := o4.isR (Y := fun k => Y1 k ∨ vr.ownBlock = some k) (fun k hk => .inr hk)
  refine ⟨⟨⟨a5, c5, ?_, q5, ?_⟩, fun r hr => ((pre1 r hr).fr FSt (fun k hk e => hF1 (by rw [← e]; exact hk))).mono (fun k hk => .inl hk), fun hy => hy.elim hF1 (fun h => nF F h rfl)⟩, FSt, frozen_of_row wr F 0 _ _ eh⟩
  · have := heap_setCell_same wr F 0 #[.slice ah R.length ch] 37 vr eh
    rw [this, e5]
    simp
  · rw [e4] at e5
    injection e5 with e51 e52 e53
    rw [← e51, ← e53]
    exact sh
set_option maxHeartbeats 8000000 in
set_option maxRecDepth 100000 in
theorem vkill_any (h : RD w Y F R) (I : RI E R) (ord : ∀ p i, E p i → p < i) (hR : R.length ≤ 4000) : Calls Try.prog 17 #[.pointer (some ⟨F, 0, none⟩), .int .i64 id] w fun e w' => KillIs w Y F R E id e w' := by
  obtain ⟨m, hm⟩ : ∃ m, R.length = m := ⟨_, rfl⟩
  obtain ⟨S, hS⟩ : ∃ S, w.heap.size = S := ⟨_, rfl⟩
  have FF : Aside (F < S) := by rw [← hS]; exact h.lt
  have Q : Aside (RD w Y F R ∧ RI E R ∧ ∀ p i, E p i → p < i) := ⟨h, I, ord⟩
  have RDb : Aside (∀ wr, Below S w wr → RD wr Y F R) := fun wr hb => h.below (by rw [hS]; exact hb)
  rw [hm] at hR
  clear h I ord
  go_enter Try.func17, Try.ntmps17
  go_wp2_with fail
  go_loopw [5, 6] (fun s5 s6 wr => ∃ (J g c : Nat) (G : List Int), J ≤ m ∧ s6 = .int .i64 J ∧ s5 = .slice (some ⟨g, 0, none⟩) (G.length + 1) c ∧ DI E R id J G ∧ OwnI wr S (.slice (some ⟨g, 0, none⟩) (G.length + 1) c) (id :: G) ∧ Below S w wr) (fun _ i _ => m - (intOf i).toNat)
  case atStart =>
    have o := OwnI.one (base := S) w id (by omega)
    rw [hS] at o
    exact ⟨0, S, 1, [], by omega, rfl, rfl, DI.start E R id, o, (Below.refl _ _).alloc (by omega) _⟩
  case round =>
    obtain ⟨J, g, c, G, hJ, rfl, rfl, DD, OW, BW⟩ := hrel
    have lG := DD.len
    obtain ⟨n, hn⟩ : ∃ n, G.length = n := ⟨_, rfl⟩
    rw [hn] at OW lG ⊢
    have HN : Hid (G.length = n) := hn
    have HD : Aside (DI E R id J G) := DD
    clear DD hn
    by_cases cJ : J < m
    · obtain ⟨ra, rc, hcF, qR⟩ := (RDb.out wr BW).cell
      rw [hm] at hcF
      obtain ⟨b, off, r, rfl, er, hr, _, h1, h2⟩ := qR.at (j := J) (by omega)
      obtain ⟨x, hx⟩ : ∃ x, r.id = x := ⟨_, rfl⟩
      rw [hx] at h1
      obtain ⟨p, pc, ev, qv, _⟩ := (RDb.out wr BW).pre r hr
      obtain ⟨L, hL⟩ : ∃ L, r.ps.length = L := ⟨_, rfl⟩
      have Ll : L ≤ 9223372036854775807 := by rw [← hL]; exact qv.len
      rw [hL] at ev
      rw [ev] at h2
      have HR : Aside (R[J]? = some r ∧ r ∈ R ∧ r.id = x ∧ r.ps.length = L ∧ r.v = .slice p L pc) := ⟨er, hr, hx, hL, ev⟩
      have HS : Aside (OwnI wr S (.slice (some ⟨g, 0, none⟩) (n + 1) c) (id :: G) ∧ Below S w wr) := ⟨OW, BW⟩
      -- the row's cells in every world behind
      have RC : Aside (∀ wr, Below S w wr → wr.cell? ⟨F, 0, none⟩ = some (.slice (some ⟨b, off, none⟩) m rc) ∧ wr.cell? ⟨b, off + J * 2, none⟩ = some (.int .i64 x) ∧ wr.cell? ⟨b, off + J * 2 + 1, none⟩ = some (.slice p L pc) ∧ IsI wr p pc r.ps) := by
        have old : ∀ v : World, Below S w v → v.cell? ⟨F, 0, none⟩ = w.cell? ⟨F, 0, none⟩ := fun v hv => hv.cell (p := ⟨F, 0, none⟩) FF.out
        obtain ⟨ra0, rc0, hc0, q0⟩ := Q.out.1.cell
        have e0 : w.cell? ⟨F, 0, none⟩ = some (.slice (some ⟨b, off, none⟩) m rc) := by rw [← old wr BW]; exact hcF
        rw [e0] at hc0
        injection hc0 with hc0
        injection hc0 with e1 e2 e3
        subst e1 e3
        obtain ⟨b', off', r', eb, er', hr', hb', k1, k2⟩ := q0.at (j := J) (by omega)
        injection eb with eb
        injection eb with eb1 eb2
        subst eb1 eb2
        rw [er] at er'
        injection er' with er'
        subst er'
        rw [hx] at k1
        rw [ev] at k2
        intro v hv
        have hvp := hv
        rw [← hS] at hvp
        obtain ⟨p', pc', ev', qv', _⟩ := (Q.out.1.below hvp).pre r hr
        rw [ev, hL] at ev'
        injection ev' with f1 f2 f3
        subst f1 f3
        exact ⟨by rw [old v hv]; exact e0, by rw [← k1]; exact hv.cell (p := ⟨b, off + J * 2, none⟩) (by show b < S; omega), by rw [← k2]; exact hv.cell (p := ⟨b, off + J * 2 + 1, none⟩) (by show b < S; omega), qv'⟩
      clear OW BW h1 h2 hcF qR er hr hx ev qv hL
      have hcF := (RC.out wr HS.out.2).1
      clear hcF
      have hcF0 := (RC.out wr HS.out.2).1
      go_wp2_with fail
      clear hcF0
      go_loopw [5, 7] (fun s5 s7 wr => ∃ (K g2 c2 : Nat) (D2 : List Int), K ≤ L ∧ s7 = .int .i64 K ∧ s5 = .slice (some ⟨g2, 0, none⟩) (n + D2.length + 1) c2 ∧ ((D2 = [] ∧ ∀ y ∈ r.ps.take K, y ∉ id :: G) ∨ (D2 = [x] ∧ ∃ y ∈ r.ps, y ∈ id :: G)) ∧ OwnI wr S (.slice (some ⟨g2, 0, none⟩) (n + D2.length + 1) c2) (id :: (G ++ D2)) ∧ Below S w wr) (fun _ i _ => L - (intOf i).toNat)
      case atStart => exact ⟨0, g, c, [], by omega, rfl, rfl, .inl ⟨rfl, fun y hy => by simp at hy⟩, by simpa using HS.out.1, HS.out.2⟩
      case round =>
        obtain ⟨K, g2, c2, D2, hK, rfl, rfl, cas, OW, BW⟩ := hrel
        obtain ⟨hcF, h1, h2, qv⟩ := RC.out wr BW
        have SZ : S ≤ wr.heap.size := by have := BW.size; omega
        have hlen : (id :: (G ++ D2)).length = n + D2.length + 1 := by have := HN.out; simp; omega
        have d2l : D2.length ≤ 1 := by rcases cas with ⟨h, _⟩ | ⟨h, _⟩ <;> rw [h] <;> simp
        have q0 := OW
        rw [← hlen] at q0
        have q0 := q0.isIv
        obtain ⟨er, hr, hx, hL, ev⟩ := HR.out
        obtain ⟨_, II, ord⟩ := Q.out
        have rowd := HD.out.row II ord er
        have notin := HD.out.notin II er
        rw [hx] at rowd notin
        by_cases cK : K < L
        · obtain ⟨gp, op, rfl, _, hcy⟩ := qv.at (j := K) (by omega)
          obtain ⟨y, hy⟩ : ∃ y, r.ps.getD K 0 = y := ⟨_, rfl⟩
          rw [hy] at hcy
          have yps : y ∈ r.ps := by rw [← hy]; exact getD_mem (by omega)
          have yx : y < x := by rw [← hx]; exact ord _ _ ((II.waits hr y).2 yps)
          have tk : ∀ z, z ∈ r.ps.take (K + 1) ↔ z ∈ r.ps.take K ∨ z = y := fun z => by rw [mem_take_up (by omega), hy]
          have HAS1 := has_any q0 y
          have HAS2 := has_any q0 x
          rw [hlen] at HAS1 HAS2
          have m1 : y ∈ id :: (G ++ D2) ↔ y ∈ id :: G := by
            rw [← List.cons_append, List.mem_append]
            constructor
            · rintro (h | h)
              · exact h
              · rcases cas with ⟨h', _⟩ | ⟨h', _⟩
                · rw [h'] at h; simp at h
                · rw [h'] at h; simp at h; omega
            · exact .inl
          by_cases cy : y ∈ id :: G
          · have rch := rowd.1 ⟨y, yps, cy⟩
            have xid : x ≠ id := by have := rch.lt ord; omega
            rw [show decide (y ∈ id :: (G ++ D2)) = true from decide_eq_true (m1.2 cy)] at HAS1
            rcases cas with ⟨h', _⟩ | ⟨h', hh⟩
            · subst h'
              have xno : x ∉ id :: (G ++ []) := by
                rw [List.append_nil, List.mem_cons]
                exact fun h => h.elim xid notin
              rw [show decide (x ∈ id :: (G ++ [])) = false from decide_eq_false xno] at HAS2
              obtain ⟨v5, w5, hr5, o5, F5, n5⟩ := OW.push x (by rw [hlen]; simp; omega) SZ
              have e5 : id :: (G ++ []) ++ [x] = id :: (G ++ [x]) := by simp
              rw [e5] at o5
              obtain ⟨g5, c5, ee⟩ := o5.addr (by simp)
              have l5 : (id :: (G ++ [x])).length = n + 1 + 1 := by have := HN.out; simp; omega
              rw [l5] at ee
              subst ee
              have NX : Aside ((∃ y ∈ r.ps, y ∈ id :: G) ∧ OwnI w5 S (.slice (some ⟨g5, 0, none⟩) (n + [x].length + 1) c5) (id :: (G ++ [x])) ∧ Below S w w5) :=
                ⟨⟨y, yps, cy⟩, o5, BW.trans (F5.toBelow (fun k hk => (OW.rowLt hk).1) SZ)⟩
              have R5 : Hid _ := hr5
              clear OW BW q0 qv er hr hx hL ev II ord rowd notin yps m1 cy rch xid xno o5 F5 n5 tk hy l5 e5 hr5 hlen
              have hr5 := R5.out
              simp only [List.length_nil, Nat.add_zero] at hr5 HAS1 HAS2 ⊢
              go_wp2_with fail
              refine HAS1.mono ?_
              rintro e w4 ⟨rfl, rfl⟩
              clear HAS1
              go_wp2_with fail
              refine HAS2.mono ?_
              rintro e w4 ⟨rfl, rfl⟩
              clear HAS2
              go_wp2_with (at_builtin; refine wpList_app _ rfl _ _ 24 rfl _ _ rfl rfl _ w5 hr5 ?_; clear hr5)
              go_roundw
              case rel => exact ⟨K + 1, g5, c5, [x], by omega, by go_num, by simp, .inr ⟨rfl, NX.out.1⟩, NX.out.2⟩
              case measure => simp [intOf]; omega
            · subst h'
              rw [show decide (x ∈ id :: (G ++ [x])) = true from decide_eq_true (by simp)] at HAS2
              have NX : Aside ((∃ y ∈ r.ps, y ∈ id :: G) ∧ OwnI wr S (.slice (some ⟨g2, 0, none⟩) (n + [x].length + 1) c2) (id :: (G ++ [x])) ∧ Below S w wr) := ⟨hh, OW, BW⟩
              clear OW BW q0 qv er hr hx hL ev II ord rowd notin yps m1 cy rch xid tk hy hlen hh
              simp only [List.length_cons, List.length_nil, Nat.zero_add] at HAS1 HAS2 ⊢
              go_wp2_with fail
              refine HAS1.mono ?_
              rintro e w4 ⟨rfl, rfl⟩
              clear HAS1
              go_wp2_with fail
              refine HAS2.mono ?_
              rintro e w4 ⟨rfl, rfl⟩
              clear HAS2
              go_wp2_with fail
              go_roundw
              case rel => exact ⟨K + 1, g2, c2, [x], by omega, by go_num, by simp, .inr ⟨rfl, NX.out.1⟩, NX.out.2⟩
              case measure => simp [intOf]; omega
          · rw [show decide (y ∈ id :: (G ++ D2)) = false from decide_eq_false (fun h => cy (m1.1 h))] at HAS1
            have NX : Aside (((D2 = [] ∧ ∀ y ∈ r.ps.take (K + 1), y ∉ id :: G) ∨ (D2 = [x] ∧ ∃ y ∈ r.ps, y ∈ id :: G)) ∧ OwnI wr S (.slice (some ⟨g2, 0, none⟩) (n + D2.length + 1) c2) (id :: (G ++ D2)) ∧ Below S w wr) := by
              refine ⟨?_, OW, BW⟩
              rcases cas with ⟨h', hh⟩ | h'
              · exact .inl ⟨h', fun z hz => ((tk z).1 hz).elim (hh z) (fun e => by rw [e]; exact cy)⟩
              · exact .inr h'
            clear OW BW q0 qv er hr hx hL ev II ord rowd notin yps m1 cy tk hy hlen cas HAS2
            obtain ⟨dl, hdl⟩ : ∃ dl, D2.length = dl := ⟨_, rfl⟩
            rw [hdl] at HAS1 d2l ⊢
            have HDL : Hid (D2.length = dl) := hdl
            clear hdl
            go_wp2_with fail
            refine HAS1.mono ?_
            rintro e w4 ⟨rfl, rfl⟩
            clear HAS1
            go_wp2_with fail
            go_roundw
            case rel => exact ⟨K + 1, g2, c2, D2, by omega, by go_num, by rw [HDL.out], NX.out⟩
            case measure => simp [intOf]; omega
        · obtain rfl : K = L := by omega
          rw [List.take_of_length_le (by omega)] at cas
          obtain ⟨nx1, nx2⟩ := HD.out.next II ord er
          rw [hx] at nx1 nx2
          have NX : Aside (∃ (G' : List Int), n + D2.length + 1 = G'.length + 1 ∧ DI E R id (J + 1) G' ∧ OwnI wr S (.slice (some ⟨g2, 0, none⟩) (G'.length + 1) c2) (id :: G') ∧ Below S w wr) := by
            rcases cas with ⟨h', hh⟩ | ⟨h', hh⟩
            · subst h'
              have e : n + ([] : List Int).length = G.length := by have := HN.out; simp; omega
              rw [e] at OW
              exact ⟨G, by rw [e], nx2 (fun hr => by obtain ⟨z, z1, z2⟩ := rowd.2 hr; exact hh z z1 z2), by simpa using OW, BW⟩
            · subst h'
              have e : n + ([x] : List Int).length = (G ++ [x]).length := by have := HN.out; simp; omega
              rw [e] at OW
              exact ⟨G ++ [x], by rw [e], nx1 (rowd.1 hh), OW, BW⟩
          clear OW BW q0 qv er hr hx hL ev II ord rowd notin hlen cas nx1 nx2
          obtain ⟨dl, hdl⟩ : ∃ dl, D2.length = dl := ⟨_, rfl⟩
          rw [hdl] at d2l ⊢
          have HDL : Hid (D2.length = dl) := hdl
          clear hdl
          go_wp2_with fail
          go_roundw
          case rel =>
            obtain ⟨G', e1, e2, e3, e4⟩ := NX.out
            exact ⟨J + 1, g2, c2, G', by omega, by go_num, by rw [← e1, HDL.out], e2, e3, e4⟩
          case measure => simp [intOf]; omega
    · obtain rfl : J = m := by omega
      have fin := HD.out.fin Q.out.2.1 (by omega)
      have hlen : (id :: G).length = n + 1 := by have := HN.out; simp; omega
      have MG : Aside (∀ x, x ∈ G ↔ Rch E id x) := fin
      have HS : Aside (OwnI wr S (.slice (some ⟨g, 0, none⟩) (n + 1) c) (id :: G) ∧ Below S w wr) := ⟨OW, BW⟩
      have NDG : Aside (G.Nodup) := (List.nodup_cons.1 HD.out.nd).2
      have hcF0 := (RDb.out wr BW).cell
      obtain ⟨ra, rc, hcF0, _⟩ := hcF0
      rw [hm] at hcF0
      clear OW BW fin
      go_wp2_with fail
      clear hcF0
      go_loopw [8, 9] (fun s8 s9 wr => ∃ (K : Nat) (vr : Value), K ≤ J ∧ s9 = .int .i64 K ∧ vr = s8 ∧ OwnR wr S vr ((R.take K).filter (fun r => !decide (r.id ∈ id :: G))) ∧ OwnI wr S (.slice (some ⟨g, 0, none⟩) (n + 1) c) (id :: G) ∧ Below S w wr) (fun _ i _ => J - (intOf i).toNat)
      case atStart => exact ⟨0, _, by omega, rfl, rfl, OwnR.nil _ _, HS.out⟩
      case round =>
        obtain ⟨K, vr, hK, rfl, rfl, OR, OW, BW⟩ := hrel
        have SZ : S ≤ wr.heap.size := by have := BW.size; omega
        have RW := RDb.out wr BW
        by_cases cK : K < J
        · obtain ⟨ra, rc, hcF, qR⟩ := RW.cell
          rw [hm] at hcF
          obtain ⟨b, off, r, rfl, er, hr, _, h1, h2⟩ := qR.at (j := K) (by omega)
          obtain ⟨p, pc, ev, _, _⟩ := RW.pre r hr
          obtain ⟨L, hL⟩ : ∃ L, r.ps.length = L := ⟨_, rfl⟩
          rw [hL] at ev
          have q0 := OW
          rw [← hlen] at q0
          have HAS := has_any q0.isIv r.id
          rw [hlen] at HAS
          have tk : (R.take (K + 1)).filter (fun r => !decide (r.id ∈ id :: G)) = (R.take K).filter (fun r => !decide (r.id ∈ id :: G)) ++ if r.id ∈ id :: G then [] else [r] := by
            rw [List.take_add_one, er, List.filter_append]
            congr 1
            by_cases c : r.id ∈ id :: G
            · rw [if_pos c]; simp only [Option.toList, List.filter_cons, List.filter_nil, decide_eq_true c]; rfl
            · rw [if_neg c]; simp only [Option.toList, List.filter_cons, List.filter_nil, decide_eq_false c]; rfl
          have cl : ((R.take K).filter (fun r => !decide (r.id ∈ id :: G))).length < 100000 := Nat.lt_of_le_of_lt (List.length_filter_le _ _) (by simp; omega)
          obtain ⟨v5, w5, hr5, o5, F5, n5⟩ := OR.push r (by rw [ev]; rfl) cl SZ
          have low : ∀ k, vr.ownBlock = some k → S ≤ k := fun k hk => (OR.rowLt hk).1
          have apart : ∀ k, Value.ownBlock (.slice (some ⟨g, 0, none⟩) (n + 1) c) = some k → vr.ownBlock ≠ some k := fun k h1 h2 => by
            obtain ⟨cs, e1⟩ := OW.rowT h1
            obtain ⟨cs', e2⟩ := OR.rowT h2
            rw [e1] at e2
            simp only [Option.some.injEq, Obj.cells.injEq] at e2
            exact absurd e2.2.1 (by decide)
          obtain ⟨x, hx⟩ : ∃ x, r.id = x := ⟨_, rfl⟩
          rw [hx] at h1 HAS hr5
          rw [ev] at h2 hr5
          by_cases cx : r.id ∈ id :: G
          · rw [show decide (x ∈ id :: G) = true from decide_eq_true (by rw [← hx]; exact cx)] at HAS
            rw [if_pos cx, List.append_nil] at tk
            have NX : Aside (OwnR wr S vr ((R.take (K + 1)).filter (fun r => !decide (r.id ∈ id :: G))) ∧ OwnI wr S (.slice (some ⟨g, 0, none⟩) (n + 1) c) (id :: G) ∧ Below S w wr) := ⟨by rw [tk]; exact OR, OW, BW⟩
            clear OR OW BW RW qR er hr ev hL q0 tk cl o5 F5 n5 low apart hx cx hr5
            go_wp2_with fail
            refine HAS.mono ?_
            rintro e w4 ⟨rfl, rfl⟩
            clear HAS
            go_wp2_with fail
            go_roundw
            case rel => exact ⟨K + 1, vr, by omega, by go_num, rfl, NX.out⟩
            case measure => simp [intOf]; omega
          · rw [show decide (x ∈ id :: G) = false from decide_eq_false (by rw [← hx]; exact cx)] at HAS
            rw [if_neg cx] at tk
            have NX : Aside (OwnR w5 S v5 ((R.take (K + 1)).filter (fun r => !decide (r.id ∈ id :: G))) ∧ OwnI w5 S (.slice (some ⟨g, 0, none⟩) (n + 1) c) (id :: G) ∧ Below S w w5) := ⟨by rw [tk]; exact o5, OW.fr F5 (fun k hk e => apart k hk e), BW.trans (F5.toBelow low SZ)⟩
            have R5 : Hid _ := hr5
            clear OR OW BW RW qR er hr ev hL q0 tk cl o5 F5 n5 low apart hx cx hr5
            have hr5 := R5.out
            go_wp2_with fail
            refine HAS.mono ?_
            rintro e w4 ⟨rfl, rfl⟩
            clear HAS
            go_wp2_with (at_builtin; refine wpList_app _ rfl _ _ 35 rfl _ _ rfl rfl v5 w5 hr5 ?_; clear hr5)
            go_roundw
            case rel => exact ⟨K + 1, v5, by omega, by go_num, rfl, NX.out⟩
            case measure => simp [intOf]; omega
        · obtain rfl : K = J := by omega
          rw [List.take_of_length_le (by omega)] at OR
          obtain ⟨R1, hR1⟩ : ∃ R1, R.filter (fun r => !decide (r.id ∈ id :: G)) = R1 := ⟨_, rfl⟩
          rw [hR1] at OR
          have sub : ∀ r ∈ R1, r ∈ R := fun r hr => by rw [← hR1] at hr; exact (List.mem_filter.1 hr).1
          obtain ⟨PD, FSt, fz⟩ := RW.put OR (fun r hr => RW.pre r (sub r hr)) RW.yf
          obtain ⟨ra, rc, hcF, _⟩ := RW.cell
          obtain ⟨a8, c8, e8, _⟩ := OR.shape
          obtain ⟨L8, hL8⟩ : ∃ L8, R1.length = L8 := ⟨_, rfl⟩
          rw [hL8] at e8
          have lR1 : R1.length ≤ R.length := by rw [← hR1]; exact List.length_filter_le _ _
          have own8 : ∀ k, vr.ownBlock = some k → S ≤ k ∧ k < wr.heap.size := fun k hk => OR.rowLt hk
          subst e8
          obtain ⟨W, hW⟩ : ∃ W, wr.setCell ⟨F, 0, none⟩ (.slice a8 L8 c8) = W := ⟨_, rfl⟩
          rw [hW] at PD FSt
          have nF : ∀ k, Value.ownBlock (.slice (some ⟨g, 0, none⟩) (n + 1) c) = some k → k ≠ F := fun k hk e => by
            obtain ⟨cs, e1⟩ := OW.rowT hk
            obtain ⟨ah, ch, eh, _⟩ := RW.head
            rw [e, eh] at e1
            simp only [Option.some.injEq, Obj.cells.injEq] at e1
            exact absurd e1.2.1 (by decide)
          have q0 : OwnI W S (.slice (some ⟨g, 0, none⟩) (n + 1) c) (id :: G) := OW.fr FSt nF
          rw [← hlen] at q0
          have q0 := q0.isIv
          have q1 := q0.drop 1 (by simp)
          have VR := vrising_any q1 (by simp; have := HN.out; omega)
          have hcap := q0.le
          rw [hlen] at hcap
          have hbig := q0.big
          unfold maxLen at hbig
          simp only [List.drop_one, List.tail_cons, HN.out] at VR
          have szW : S ≤ W.heap.size := by have := FSt.size; omega
          have FIN : Aside (∀ (v6 : Value) (r6 : List Int) (w6 : World), OwnI w6 W.heap.size v6 r6 → Up r6 → (∀ x, x ∈ r6 ↔ x ∈ G) → Below W.heap.size W w6 → KillIs w Y F R E id (.returned v6) w6) := fun v6 r6 w6 o6 u6 m6 b6 => by
            refine ⟨v6, r6, R1, _, rfl, o6.low (by omega), u6, fun j => (m6 j).trans (MG.out j), PD.below b6, ri_kill Q.out.2.1 MG.out hR1.symm, lR1, ?_, fun k hk => ?_⟩
            · exact ((Fr.below (by rw [hS]; exact BW)).trans FSt (fun j hj => .inl hj)).trans (Fr.below (X := fun k => k = F) b6) (fun j hj => .inl hj)
            · rcases hk with hk | hk
              · exact .inl hk
              · have h1 := own8 k hk
                have h2 := FSt.size
                have h3 := b6.size
                exact .inr ⟨by omega, by omega⟩
          have HW : Hid _ := hW
          clear OR OW BW RW hR1 sub PD FSt lR1 own8 nF q0 q1 szW hL8 hW
          by_cases c1 : c = 1
          · subst c1
            obtain rfl : n = 0 := by omega
            rw [if_pos rfl] at VR
            go_upto_region 17 with fail
            rw [HW.out]
            go_wp2_with fail
            refine VR.mono ?_
            rintro e w6 ⟨v6, r6, rfl, o6, u6, m6, l6, b6⟩
            clear VR
            go_wp2_with fail
            go_ret
            exact FIN.out v6 r6 w6 o6 u6 m6 b6
          · rw [if_neg c1, Option.map_some, Addr.add_lit] at VR
            go_upto_region 17 with fail
            rw [HW.out]
            go_wp2_with fail
            refine VR.mono ?_
            rintro e w6 ⟨v6, r6, rfl, o6, u6, m6, l6, b6⟩
            clear VR
            go_wp2_with fail
            go_ret
            exact FIN.out v6 r6 w6 o6 u6 m6 b6
end Go.Proofs.Ythpdnlokjhafeaa
