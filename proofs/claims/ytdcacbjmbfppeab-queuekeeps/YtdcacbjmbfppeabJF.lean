import Derived.Test.YtdcacbjmbfppeabJE
import Derived.Deep.RegionHeld3
/- entry.Put. -/
namespace Go.Proofs.Ytdcacbjmbfppeab
open Go.RowKit Go.Lib Go.Sort
set_option linter.unusedVariables false

theorem IsLL.of_block {W : World} {g : Nat} {cs : Array Value} {T : TypeId} {fr : Nat × Nat} {ls : List (List Ent)} (h : W.heap[g]? = some (.cells cs T fr)) (hl : ls.length ≤ 9223372036854775807)
    (he : ∀ (i : Nat) (d : List Ent), ls[i]? = some d → ∃ p k, cs[i]? = some (Value.slice p d.length k) ∧ IsL W p k d) : IsLL W (some ⟨g, 0, none⟩) ls :=
  ⟨hl, fun i d hd => by
    obtain ⟨p, k, h1, h2⟩ := he i d hd
    exact ⟨g, 0, p, k, rfl, lt_of_block h, by rw [Nat.zero_add, cell_of_row _ _ _ cs T fr h]; exact h1, h2⟩⟩
/-- The three parts that Put joins. -/
theorem put_lists {w2 : World} {a p1 : Option Addr} {cap k : Nat} {d : List Ent} (e : Ent) (L : IsL w2 a cap d) (hk : k ≤ d.length) (hp : (if cap = k then a else a.map (·.add (k * 2))) = p1) :
    IsLL ((w2.alloc (.cells #[.int .u64 e.1, .int .i64 e.2] 33)).alloc (.cells #[.slice a k cap, .slice (some ⟨w2.heap.size, 0, none⟩) 1 1, .slice p1 (d.length - k) (cap - k)] 35)).drew (some ⟨w2.heap.size + 1, 0, none⟩) [d.take k, [e], d.drop k] ∧
    Below w2.heap.size w2 ((w2.alloc (.cells #[.int .u64 e.1, .int .i64 e.2] 33)).alloc (.cells #[.slice a k cap, .slice (some ⟨w2.heap.size, 0, none⟩) 1 1, .slice p1 (d.length - k) (cap - k)] 35)).drew := by
  have b1 : Below w2.heap.size w2 (w2.alloc (.cells #[.int .u64 e.1, .int .i64 e.2] 33)) := (Below.refl _ _).alloc (Nat.le_refl _) _
  have b2 : Below w2.heap.size w2 ((w2.alloc (.cells #[.int .u64 e.1, .int .i64 e.2] 33)).alloc (.cells #[.slice a k cap, .slice (some ⟨w2.heap.size, 0, none⟩) 1 1, .slice p1 (d.length - k) (cap - k)] 35)).drew := (b1.alloc (by simp) _).drew
  refine ⟨IsLL.of_block (cs := #[.slice a k cap, .slice (some ⟨w2.heap.size, 0, none⟩) 1 1, .slice p1 (d.length - k) (cap - k)]) (T := 35) (fr := (0, 0)) ?_ (by simp) (fun i x hx => ?_), b2⟩
  · have := heap_alloc_new (w2.alloc (.cells #[.int .u64 e.1, .int .i64 e.2] 33)) (.cells #[.slice a k cap, .slice (some ⟨w2.heap.size, 0, none⟩) 1 1, .slice p1 (d.length - k) (cap - k)] 35)
    rw [show (w2.alloc (.cells #[.int .u64 e.1, .int .i64 e.2] 33)).heap.size = w2.heap.size + 1 by simp] at this
    exact this
  · have hi : i < 3 := by simpa using (List.getElem?_eq_some_iff.1 hx).1
    have : i = 0 ∨ i = 1 ∨ i = 2 := by omega
    rcases this with rfl | rfl | rfl
    · simp at hx
      subst hx
      exact ⟨a, cap, by simp [List.length_take, Nat.min_eq_left hk], (L.take k).below b2⟩
    · simp at hx
      subst hx
      exact ⟨some ⟨w2.heap.size, 0, none⟩, 1, rfl, (IsL.one w2 e).below (((Below.refl _ _).alloc (by simp) _).drew)⟩
    · simp at hx
      subst hx
      have := (L.drop k hk).below b2
      rw [hp] at this
      exact ⟨p1, cap - k, by simp [List.length_drop], this⟩

end Go.Proofs.Ytdcacbjmbfppeab

/- The document's Put. -/
namespace Go.Proofs.Ytdcacbjmbfppeab
open Go.RowKit Go.Lib Go.Sort
set_option linter.unusedVariables false

/-- An append whose run is known, at a step of a region that draws its order. -/
theorem step_app {ops : Array Oper} {o : Oper} {a : Act} {K : Act → World → Prop} {Q : Exit → Act → World → Prop} {E : Prop} (w : World) (hgd : o.guard = none) (s x : Operand) (t tn : TypeId)
    (ho : o.op = .call { callee := .builtin .append, args := #[s, x], argTypes := #[t, tn] }) (vs vx : Value) (hs : a.eval s = vs) (hx : a.eval x = vx)
    (v' : Value) (w' : World) (hr : (Builtin.append_ #[t, tn] o.type #[vs, vx]).run Try.prog w = .ok v' w') (h : K (a.put o.dst v') w') :
    if Region.wanted o (yielded ops a.tmps) = true then Oper.wp Try.prog o a w K Q else E := by
  have hw : Region.wanted o (yielded ops a.tmps) = true := by simp [Region.wanted, hgd]
  rw [if_pos hw]
  exact Lib.wp_append_run w s x t tn ho vs vx hs hx v' w' hr h

/-- The run of 'append(x, y...)' at entries. -/
def AppRun (w : World) (v u : Value) (v' : Value) (w' : World) : Prop := (Builtin.append_ #[35, 35] 35 #[v, u]).run Try.prog w = .ok v' w'

theorem IsL.keeps {w X : World} {a : Option Addr} {cap : Nat} {d : List Ent} (h : IsL w a cap d) (hX : Below w.heap.size w X) : IsL X a cap d := h.below hX
/-- A block of the call's own that another append does not touch. -/
theorem isL_far {X Y : World} {g : Nat} {e : Ent} {row : Option Nat} (h : IsL X (some ⟨g, 0, none⟩) 1 [e]) (hg : X.grownBy Y row) (hne : some g ≠ row) : IsL Y (some ⟨g, 0, none⟩) 1 [e] :=
  ⟨h.le, h.big, fun i x hx => by
    obtain ⟨b, off, e1, hb, h1, h2⟩ := h.elem i x hx
    cases e1
    exact ⟨g, 0, rfl, by have := hg.size; omega, (World.cell?_of_block (w := X) (hg.block g hb hne)).trans h1, (World.cell?_of_block (w := X) (hg.block g hb hne)).trans h2⟩⟩

/-- The three appends of Put, the new entry's block laid ahead of the first. -/
theorem put_bc {w2 X : World} {a p1 : Option Addr} {cap k gA gB : Nat} {d : List Ent} {e : Ent} (hX : Below w2.heap.size w2 X) (hz : w2.heap.size ≤ X.heap.size) (oA : OwnE X w2.heap.size (.slice (some ⟨gA, 0, none⟩) 0 0) []) (LB : IsL X (some ⟨gB, 0, none⟩) 1 [e]) (hne : gB ≠ gA)
    (L : IsL w2 a cap d) (hk : k ≤ d.length) (hd : d.length ≤ 100000) (hp : (if cap = k then a else a.map (·.add (k * 2))) = p1) :
    ∃ r1 t1 u1 r2 n2 t2 u2 r3 n3 t3 u3, AppRun X (.slice (some ⟨gA, 0, none⟩) 0 0) (.slice a k cap) (.slice r1 k t1) u1 ∧ AppRun u1 (.slice r1 k t1) (.slice (some ⟨gB, 0, none⟩) 1 1) (.slice r2 n2 t2) u2 ∧ AppRun u2 (.slice r2 n2 t2) (.slice p1 (d.length - k) (cap - k)) (.slice r3 n3 t3) u3 ∧
      n3 = (d.take k ++ e :: d.drop k).length ∧ OwnE u3 w2.heap.size (.slice r3 n3 t3) (d.take k ++ e :: d.drop k) ∧ Below w2.heap.size w2 u3 ∧ Below w2.heap.size w2 u1 ∧ Below w2.heap.size w2 u2 := by
  have l1 : (d.take k).length = k := by simp; omega
  have l2 : (d.drop k).length = d.length - k := by simp
  obtain ⟨v1, u1, h1, o1, g1⟩ := app_run (d := []) (c := d.take k) oA ((L.below hX).take k) (by simp; omega) hz 35
  obtain ⟨r1, t1, rfl, _⟩ := o1.isL
  have b1 : Below w2.heap.size w2 u1 := OwnE.grown oA hX g1 hz
  have LB1 := isL_far LB g1 (by simp [Value.ownBlock]; exact hne)
  obtain ⟨v2, u2, h2, o2, g2⟩ := app_run (c := [e]) o1 LB1 (by simp; omega) b1.size 35
  obtain ⟨r2, t2, rfl, _⟩ := o2.isL
  have b2 : Below w2.heap.size w2 u2 := OwnE.grown o1 b1 g2 b1.size
  have L2 := (L.below b2).drop k hk
  rw [hp] at L2
  obtain ⟨v3, u3, h3, o3, g3⟩ := app_run (c := d.drop k) o2 L2 (by simp; omega) b2.size 35
  obtain ⟨r3, t3, rfl, _⟩ := o3.isL
  have b3 : Below w2.heap.size w2 u3 := OwnE.grown o2 b2 g3 b2.size
  have e3 : [] ++ d.take k ++ [e] ++ d.drop k = d.take k ++ e :: d.drop k := by simp
  rw [e3] at h3 o3
  rw [List.nil_append, l1] at h1 h2
  rw [l2] at h3
  exact ⟨r1, t1, u1, r2, _, t2, u2, r3, _, t3, u3, h1, h2, h3, rfl, o3, b3, b1, b2⟩

/-- .. and behind it. -/
theorem put_a {w2 X : World} {a p1 : Option Addr} {cap k gA : Nat} {d : List Ent} {e : Ent} (hX : Below w2.heap.size w2 X) (hz : w2.heap.size ≤ X.heap.size) (oA : OwnE X w2.heap.size (.slice (some ⟨gA, 0, none⟩) 0 0) [])
    (L : IsL w2 a cap d) (hk : k ≤ d.length) (hd : d.length ≤ 100000) (hp : (if cap = k then a else a.map (·.add (k * 2))) = p1) :
    ∃ r1 t1 u1 r2 n2 t2 u2 r3 n3 t3 u3, AppRun X (.slice (some ⟨gA, 0, none⟩) 0 0) (.slice a k cap) (.slice r1 k t1) u1 ∧ AppRun (u1.alloc (.cells #[.int .u64 e.1, .int .i64 e.2] 33)) (.slice r1 k t1) (.slice (some ⟨u1.heap.size, 0, none⟩) 1 1) (.slice r2 n2 t2) u2 ∧ AppRun u2 (.slice r2 n2 t2) (.slice p1 (d.length - k) (cap - k)) (.slice r3 n3 t3) u3 ∧
      n3 = (d.take k ++ e :: d.drop k).length ∧ OwnE u3 w2.heap.size (.slice r3 n3 t3) (d.take k ++ e :: d.drop k) ∧ Below w2.heap.size w2 u3 ∧ Below w2.heap.size w2 u1 ∧ Below w2.heap.size w2 u2 := by
  have l1 : (d.take k).length = k := by simp; omega
  have l2 : (d.drop k).length = d.length - k := by simp
  obtain ⟨v1, u1, h1, o1, g1⟩ := app_run (d := []) (c := d.take k) oA ((L.below hX).take k) (by simp; omega) hz 35
  obtain ⟨r1, t1, rfl, _⟩ := o1.isL
  have b1 : Below w2.heap.size w2 u1 := OwnE.grown oA hX g1 hz
  have c1 : Below u1.heap.size u1 (u1.alloc (.cells #[.int .u64 e.1, .int .i64 e.2] 33)) := (Below.refl _ _).alloc (Nat.le_refl _) _
  have b1' : Below w2.heap.size w2 (u1.alloc (.cells #[.int .u64 e.1, .int .i64 e.2] 33)) := b1.trans (c1.mono b1.size)
  have o1' := OwnE.below o1 c1
  obtain ⟨v2, u2, h2, o2, g2⟩ := app_run (c := [e]) o1' (IsL.one u1 e) (by simp; omega) b1'.size 35
  obtain ⟨r2, t2, rfl, _⟩ := o2.isL
  have b2 : Below w2.heap.size w2 u2 := OwnE.grown o1' b1' g2 b1'.size
  have L2 := (L.below b2).drop k hk
  rw [hp] at L2
  obtain ⟨v3, u3, h3, o3, g3⟩ := app_run (c := d.drop k) o2 L2 (by simp; omega) b2.size 35
  obtain ⟨r3, t3, rfl, _⟩ := o3.isL
  have b3 : Below w2.heap.size w2 u3 := OwnE.grown o2 b2 g3 b2.size
  have e3 : [] ++ d.take k ++ [e] ++ d.drop k = d.take k ++ e :: d.drop k := by simp
  rw [e3] at h3 o3
  rw [List.nil_append, l1] at h1 h2
  rw [l2] at h3
  exact ⟨r1, t1, u1, r2, _, t2, u2, r3, _, t3, u3, h1, h2, h3, rfl, o3, b3, b1, b2⟩




end Go.Proofs.Ytdcacbjmbfppeab

/- slices.IndexFunc at entries; entry.Drop. -/
namespace Go.Proofs.Ytdcacbjmbfppeab
open Go.RowKit Go.Lib Go.Sort
set_option linter.unusedVariables false

/-- Where the first stands of which p is true; -1 if there is none. -/
def FirstIs (d : List Ent) (p : Ent → Bool) (z : Int) : Prop := (z = -1 ∧ ∀ i (hi : i < d.length), p d[i] = false) ∨ ∃ k : Nat, ∃ hk : k < d.length, z = k ∧ p d[k] = true ∧ ∀ i (hi : i < k), p (d[i]'(by omega)) = false

set_option maxHeartbeats 2000000 in
set_option maxRecDepth 100000 in
theorem indexFunc_any (a : Option Addr) (cap : Nat) (d : List Ent) (g : Nat) (cb : Array Value) (p : Ent → Bool) (w : World) (h : IsL w a cap d)
    (eg : ∀ args w, (callFunc g args).run Try.prog w = .ok (.enter g args) w)
    (hg : ∀ (x : Ent) (W : World), Grown w W → Calls Try.prog g (#[.agg #[.int .u64 x.1, .int .i64 x.2]] ++ cb) W fun e w' => e = .returned (.bool (p x)) ∧ Grown W w') :
    Calls Try.prog 74 #[.slice a d.length cap, .func (.func g) #[] cb] w fun r w' => ∃ z : Int, r = .returned (.int .i64 z) ∧ FirstIs d p z ∧ Grown w w' := by
  have hl := h.len
  have H : Aside (IsL w a cap d) := h
  have HG : Aside (∀ (x : Ent) (W : World), Grown w W → Calls Try.prog g (#[.agg #[.int .u64 x.1, .int .i64 x.2]] ++ cb) W fun e w' => e = .returned (.bool (p x)) ∧ Grown W w') := hg
  clear h hg
  go_enter Try.func74, Try.ntmps74
  go_wp2
  go_loopg [8] d.length (fun kx s8 wr => ∃ k : Nat, s8 = .int .i64 k ∧ k ≤ d.length ∧ d.length - k ≤ kx ∧ Aside (Grown w wr) ∧ Aside (∀ i (hi : i < d.length), i < k → p d[i] = false))
  case atStart => exact ⟨0, rfl, by omega, by omega, Grown.refl w, (fun i _ h => absurd h (by omega) : ∀ i (hi : i < d.length), i < 0 → p d[i] = false)⟩
  case round =>
    obtain ⟨k, rfl, hk, hkx, G, A⟩ := hrel
    by_cases hlt : k < d.length
    · have hz : (k : Int) < (d.length : Int) := by omega
      obtain ⟨b, off, ha, hc⟩ := H.out.at hlt
      subst ha
      have c1 := (hc wr G.out 0 #[]).1
      have c2 := (hc wr G.out 0 #[]).2
      simp only [grow_empty, show wr.drewN 0 = wr from rfl] at c1 c2
      clear hc
      obtain ⟨x, hx⟩ : ∃ x, d[k] = x := ⟨_, rfl⟩
      rw [hx] at c1 c2
      have HX : Hid _ := hx
      clear hx
      obtain ⟨B, hB⟩ : ∃ B, p x = B := ⟨_, rfl⟩
      have HB : Hid _ := hB
      have pc := HG.out x wr G.out
      rw [hB] at pc
      clear hB
      go_wp2_with fail
      refine pc.mono ?_
      rintro r w1 ⟨rfl, g1⟩
      have G2 : Aside (Grown w w1) := G.out.trans g1
      clear g1 G c1 c2 pc
      cases B with
      | true =>
        go_wp2
        go_ret
        refine ⟨k, rfl, .inr ⟨k, hlt, rfl, ?_, fun i hi => A.out i (by omega) hi⟩, G2.out⟩
        rw [HX.out]; exact HB.out
      | false =>
        go_wp2
        go_roundg (d.length - (k + 1))
        case measure => omega
        case rel =>
          refine ⟨k + 1, by go_num, by omega, Nat.le_refl _, G2, (fun i hi hik => ?_ : ∀ i (hi : i < d.length), i < k + 1 → p d[i] = false)⟩
          by_cases e : i = k
          · subst e; rw [HX.out]; exact HB.out
          · exact A.out i hi (by omega)
    · have hz : ¬ (k : Int) < (d.length : Int) := by omega
      go_wp2
      go_ret
      exact ⟨-1, rfl, .inl ⟨rfl, fun i hi => A.out i hi (by omega)⟩, G.out⟩

/-- A list and whether it was changed. -/
def Dropped (w : World) (d : List Ent) (id : Int) (r : Ending) (w' : World) : Prop := ∃ a cap, r = .returned (.tuple #[.slice a (dropL d id).length cap, .bool (hasL d id)]) ∧ IsL w' a cap (dropL d id) ∧ Below w.heap.size w w'

/-- The two parts that Drop joins. -/
theorem drop_lists {w2 : World} {a p1 : Option Addr} {cap k : Nat} {d : List Ent} (L : IsL w2 a cap d) (hk : k < d.length) (hp : (if cap = k + 1 then a else a.map (·.add ((k + 1) * 2))) = p1) :
    IsLL (w2.alloc (.cells #[.slice a k cap, .slice p1 (d.length - (k + 1)) (cap - (k + 1))] 35)).drew (some ⟨w2.heap.size, 0, none⟩) [d.take k, d.drop (k + 1)] ∧
    Below w2.heap.size w2 (w2.alloc (.cells #[.slice a k cap, .slice p1 (d.length - (k + 1)) (cap - (k + 1))] 35)).drew := by
  have b2 : Below w2.heap.size w2 (w2.alloc (.cells #[.slice a k cap, .slice p1 (d.length - (k + 1)) (cap - (k + 1))] 35)).drew := ((Below.refl _ _).alloc (Nat.le_refl _) _).drew
  refine ⟨IsLL.of_block (cs := #[.slice a k cap, .slice p1 (d.length - (k + 1)) (cap - (k + 1))]) (T := 35) (fr := (0, 0)) (heap_alloc_new w2 _) (by simp) (fun i x hx => ?_), b2⟩
  have hi : i < 2 := by simpa using (List.getElem?_eq_some_iff.1 hx).1
  have : i = 0 ∨ i = 1 := by omega
  rcases this with rfl | rfl
  · simp at hx
    subst hx
    exact ⟨a, cap, by simp [List.length_take, Nat.min_eq_left (Nat.le_of_lt hk)], (L.take k).below b2⟩
  · simp at hx
    subst hx
    have := (L.drop (k + 1) hk).below b2
    rw [hp] at this
    exact ⟨p1, cap - (k + 1), by simp [List.length_drop], this⟩

end Go.Proofs.Ytdcacbjmbfppeab

/- The document's Sort, Merge and Drop. -/
namespace Go.Proofs.Ytdcacbjmbfppeab
open Go.RowKit Go.Lib Go.Sort
set_option linter.unusedVariables false

theorem fold_take {d : List Ent} {k : Nat} (h : k < d.length) : (d.take (k + 1)).foldl insL [] = insL ((d.take k).foldl insL []) d[k] := by
  rw [List.take_succ_eq_append_getElem h, List.foldl_append]
  rfl
theorem fold_len (d : List Ent) : (d.foldl insL []).length = d.length := by
  rw [ins_fold d [] Srt.nil, sortE_len]; simp

end Go.Proofs.Ytdcacbjmbfppeab
