/- wheel: Add, Cancel. -/
import Derived.Test.YtbopobgnmkhabaaDoorWhR
import Derived.Maps.OwnOps
namespace Go.Proofs.YtbopobgnmkhabaaDoor
open Go.RowKit Go.Lib Go.Sort Go.WideMaps Go.Maps
set_option linter.unusedVariables false

def addR (T : List Ent) (i : Int) : Int := if i < 1 then 1 else if (dueOf T i).isSome then 9 else if 1000 ≤ T.length then 65 else 0
def addT (T : List Ent) (i : Int) (D : Nat) : List Ent := if addR T i = 0 then insL T ((D : Int), i) else T
theorem addT_no {T : List Ent} {i : Int} (D : Nat) (h : addR T i ≠ 0) : addT T i D = T := if_neg h
theorem TOk.add {T : List Ent} (h : TOk T) {i : Int} (wi : wfI i) (D : Int) (hn : dueOf T i = none) (hl : T.length < 1000) : TOk (insL T (D, i)) := by
  refine ⟨insL_srt _ _ h.srt, ?_, fun x hx => ?_, by rw [insL_len]; omega⟩
  · rw [((insL_perm T (D, i)).map Prod.snd).nodup_iff]
    refine List.nodup_cons.2 ⟨fun hx => ?_, h.ids⟩
    obtain ⟨y, hy, e⟩ := List.mem_map.1 hx
    obtain ⟨y1, y2⟩ := y
    simp only at e
    subst e
    exact dueOf_none hn _ hy
  · rcases insL_mem.1 hx with rfl | hx
    · exact wi
    · exact h.wf x hx
theorem TOk.erase {T : List Ent} (h : TOk T) (t : Ent) : TOk (T.erase t) :=
  ⟨h.srt.erase t, List.Pairwise.sublist (List.erase_sublist.map Prod.snd) h.ids, fun x hx => h.wf x (List.mem_of_mem_erase hx), Nat.le_trans (List.length_erase_le) h.len⟩
variable {w w' : World} {F : Nat → Prop} {B base now : Nat} {T : List Ent}
set_option maxHeartbeats 1000000 in
set_option maxRecDepth 10000 in
theorem add_any (h : Whl w F B base now T) {i : Int} (wi : wfI i) {D : Nat} (hD : D < B64) (hbase : base ≤ w.heap.size) :
    Calls Tryd.prog 10 #[.pointer (some ⟨B, 0, none⟩), .int .i64 i, .int .u64 D] w fun e w' => e = .returned (.int .i64 (addR T i)) ∧ WIs w F B base now (addT T i D) w' := by
  have SAME : Aside (WIs w F B base now T w) := WIs.same h
  by_cases hi : i < 1
  · have e1 : addR T i = 1 := if_pos hi
    rw [e1, addT_no D (by omega)]
    clear h e1
    go_enter Tryd.func10, Tryd.ntmps10
    go_wp2
    go_ret
    exact ⟨rfl, SAME.out⟩
  · obtain ⟨M, hd, u, c, far, f, h1, h2, h3, h4, h5⟩ := h
    have c1 := h1.head.cell (k := 1) (by omega)
    rw [h1.h1] at c1
    have hf := map_dueOf h3 h4.ids i
    cases hdu : dueOf T i with
    | some v =>
      rw [hdu] at hf
      have lk := h1.map.look wi hf
      have e1 : addR T i = 9 := by unfold addR; rw [if_neg hi, hdu]; rfl
      rw [e1, addT_no D (by omega)]
      clear h1 h2 h3 h4 h5 hf hdu e1
      go_enter Tryd.func10, Tryd.ntmps10
      go_wp2
      go_ret
      exact ⟨rfl, SAME.out⟩
    | none =>
      rw [hdu] at hf
      have lk := h1.map.look_no wi hf
      have ln := fun ty => h1.map.len ty
      by_cases hl : 1000 ≤ T.length
      · have hlz : (1000 : Int) ≤ (T.length : Int) := by omega
        have e1 : addR T i = 65 := by unfold addR; rw [if_neg hi, hdu, if_neg (by simp), if_pos hl]
        rw [e1, addT_no D (by omega)]
        clear h1 h2 h3 h4 h5 hf hdu e1
        go_enter Tryd.func10, Tryd.ntmps10
        go_wp2
        go_ret
        exact ⟨rfl, SAME.out⟩
      · have hlz : ¬ (1000 : Int) ≤ (T.length : Int) := by omega
        have e1 : addR T i = 0 := by unfold addR; rw [if_neg hi, hdu, if_neg (by simp), if_neg hl]
        have e2 : addT T i D = insL T ((D : Int), i) := if_pos e1
        rw [e1, e2]
        obtain ⟨w1, hst, hm, hg⟩ := h1.map.store (by omega) wi hf (D : Int)
        have a1 := h1.mapSet hm hg
        have hls : ∀ l s, l < 4 → s < 64 → (c l s).length ≤ 100000 := fun l s hl' hs' => Nat.le_trans (len_le (h2.slotN l s hl' hs') (fun x hx => ((h2.slotM l s hl' hs' x).1 hx).1) h4.len) (by omega)
        have hlf : far.length ≤ 100000 := Nat.le_trans (len_le h2.farN (fun x hx => ((h2.farM x).1 hx).1) h4.len) (by omega)
        have pt := put_any w1 B M base now (T.length + 1) D hd u c far (fput f i D) ((D : Int), i) a1 rfl hD hls hlf h2.farS (Nat.le_trans hbase hg.size)
        have PT : Aside (Calls Tryd.prog 22 #[.pointer (some ⟨B, 0, none⟩), .agg #[.int .u64 (D : Int), .int .i64 i]] w1 fun e w' => e = .returned (.tuple #[]) ∧ WIs w F B base now (insL T ((D : Int), i)) w') := by
          refine Calls.mono pt ?_
          rintro e w' ⟨rfl, hd', u', c', far', q1, q2, q3, q4⟩
          have fF : Fr F w w' := by
            have x1 : Fr F w w1 := (Fr.of_grown hg).mono (fun j hj => by injection hj with hj; exact (h5 j).2 (.inr (.inl hj.symm)))
            exact x1.trans q3 (fun j hj => .inl ((h5 j).2 hj))
          refine ⟨rfl, foot B M hd', ⟨M, hd', u', c', far', _, by rw [insL_len]; exact q1, (h2.put q2 rfl hD (dueOf_none hdu D)).congr (fun x => by rw [insL_mem]; exact Or.comm), fun a v => ?_, h4.add wi D hdu (by omega), fun k => Iff.rfl⟩, fF, fun k hk => ?_⟩
          · rw [insL_mem]
            unfold fput
            by_cases ea : a = i
            · subst ea
              rw [if_pos rfl]
              constructor
              · intro e; injection e with e; exact .inl (by rw [e])
              · rintro (e | e)
                · injection e with e _; rw [e]
                · exact absurd e (dueOf_none hdu v)
            · rw [if_neg ea, h3]
              constructor
              · exact .inr
              · rintro (e | e)
                · injection e with _ e; exact absurd e ea
                · exact e
          · rcases q4 k hk with x | x
            · exact .inl ((h5 k).2 x)
            · right; have := hg.size; omega
        have c2 := a1.head.cell (k := 1) (by omega)
        rw [h1.h1] at c2
        clear h1 h2 h3 h4 h5 hf hdu e1 e2 hm hg a1 hls hlf pt
        go_enter Tryd.func10, Tryd.ntmps10
        go_wp2_with (go_at_call 22; refine PT.out.mono ?_; rintro e w' ⟨rfl, G1⟩)
        go_ret
        exact ⟨rfl, G1⟩

def canT (T : List Ent) (i : Int) : List Ent := match dueOf T i with | some v => T.erase (v, i) | none => T
set_option maxHeartbeats 1000000 in
set_option maxRecDepth 10000 in
theorem cancel_any (h : Whl w F B base now T) {i : Int} (wi : wfI i) (hbase : base ≤ w.heap.size) :
    Calls Tryd.prog 15 #[.pointer (some ⟨B, 0, none⟩), .int .i64 i] w fun e w' => e = .returned (.bool (dueOf T i).isSome) ∧ WIs w F B base now (canT T i) w' := by
  have SAME : Aside (WIs w F B base now T w) := WIs.same h
  obtain ⟨M, hd, u, c, far, f, h1, h2, h3, h4, h5⟩ := h
  have c1 := h1.head.cell (k := 1) (by omega)
  rw [h1.h1] at c1
  have hf := map_dueOf h3 h4.ids i
  unfold canT
  cases hdu : dueOf T i with
  | none =>
    rw [hdu] at hf
    have lk := h1.map.look_no wi hf
    clear h1 h2 h3 h4 h5 hf hdu
    go_enter Tryd.func15, Tryd.ntmps15
    go_wp2
    go_ret
    exact ⟨rfl, SAME.out⟩
  | some v =>
    rw [hdu] at hf
    have lk := h1.map.look wi hf
    have ht : (v, i) ∈ T := dueOf_some hdu
    obtain ⟨D, hvD, hD⟩ := h2.rng _ ht
    simp only at hvD
    subst hvD
    have hlen : 0 < T.length := List.length_pos_of_mem ht
    have hn1 : T.length = T.length - 1 + 1 := by omega
    have hm1 := h1.map
    rw [hn1] at hm1
    obtain ⟨w1, hst0, hm, hg⟩ := hm1.drop wi hf 0
    have hst : ∀ ty, (Builtin.delete_ #[55, 3] ty #[.map (some M), .int .i64 i]).run Tryd.prog w = .ok (.tuple #[]) w1 := fun ty => hst0
    have a1 := h1.mapSet hm hg
    obtain ⟨p1, p2⟩ := h2.at (t := ((D : Int), i)) rfl ht
    have pt := drop_any w1 B M base now (T.length - 1) D hd u c far (fdel f i) ((D : Int), i) a1 rfl hD p1 p2
    have PT : Aside (Calls Tryd.prog 26 #[.pointer (some ⟨B, 0, none⟩), .agg #[.int .u64 (D : Int), .int .i64 i]] w1 fun e w' => e = .returned (.tuple #[]) ∧ WIs w F B base now (T.erase ((D : Int), i)) w') := by
      refine Calls.mono pt ?_
      rintro e w' ⟨rfl, hd', u', c', far', q1, q2, q3, q4⟩
      have fF : Fr F w w' := by
        have x1 : Fr F w w1 := (Fr.of_grown hg).mono (fun j hj => by injection hj with hj; exact (h5 j).2 (.inr (.inl hj.symm)))
        exact x1.trans q3 (fun j hj => .inl ((h5 j).2 hj))
      have hnd := nodup_of_ids h4.ids
      refine ⟨rfl, foot B M hd', ⟨M, hd', u', c', far', _, by rw [List.length_erase_of_mem ht]; exact q1, (h2.drop q2 rfl ht).congr (fun x => by rw [hnd.mem_erase_iff]; exact And.comm), fun a v => ?_, h4.erase _, fun k => Iff.rfl⟩, fF, fun k hk => ?_⟩
      · rw [hnd.mem_erase_iff]
        unfold fdel
        by_cases ea : a = i
        · subst ea
          rw [if_pos rfl]
          constructor
          · intro e; cases e
          · rintro ⟨e1, e2⟩
            have := ids_inj h4.ids e2 ht rfl
            exact absurd this e1
        · rw [if_neg ea, h3]
          constructor
          · intro e; exact ⟨fun e' => ea (by injection e'), e⟩
          · rintro ⟨_, e⟩; exact e
      · rcases q4 k hk with x | x
        · exact .inl ((h5 k).2 x)
        · right; have := hg.size; omega
    clear h1 h2 h3 h4 h5 hf hdu hm hg a1 pt p1 p2 hm1 hn1 hst0
    go_enter Tryd.func15, Tryd.ntmps15
    go_wp2_with (go_at_call 26; refine PT.out.mono ?_; rintro e w' ⟨rfl, G1⟩)
    go_ret
    exact ⟨rfl, G1⟩
end Go.Proofs.YtbopobgnmkhabaaDoor
