/- Contracts: happensTo, sources, waited, Waited. -/
import Derived.Test.YtpcmdbpgplcnnaaBnD
namespace Go.Proofs.Ytpcmdbpgplcnnaa
open Go.RowKit Go.Lib Go.WideMaps Go.Maps
set_option linter.unusedVariables false
set_option maxRecDepth 10000

section
variable {w w' : World} {a : Option Addr} {cap : Nat} {d : List EvR}
theorem happens_any (e : EvR) (i : Int) (w : World) : Calls Try.prog 26 #[evV e, .int .i64 i] w fun r w' => r = .returned (.bool (hapB e i)) ∧ Below w.heap.size w w' := by
  obtain ⟨X, hX⟩ : ∃ X, w.heap.size = X := ⟨_, rfl⟩
  obtain ⟨u1, hu1⟩ : ∃ u, w.alloc (.cells #[.int .i64 e.k, .int .i64 e.t, .int .i64 e.i, .int .u64 e.y, .int .u64 e.c, .int .u64 e.n] 25) = u := ⟨_, rfl⟩
  have B1 : Aside (Below w.heap.size w u1) := by show Below _ _ _; rw [← hu1]; exact bel1 _ _
  have E1 : EBx u1 X e := by rw [← hu1, ← hX]; exact EBx.made w e
  have HX : Aside _ := hX
  have HU : Aside _ := hu1
  obtain ⟨V, hV⟩ : ∃ v, hapB e i = v := ⟨_, rfl⟩
  have HV : Aside _ := hV
  rw [hV]
  unfold evV
  obtain ⟨_, d0, d1, d2, d3, d4, d5⟩ := id E1
  clear hX hu1 hV
  go_enter Try.func26, Try.ntmps26
  go_upto_region 1 with fail
  rw [HU.out, HX.out]
  by_cases h1 : e.i = i
  · by_cases h2 : e.k = 10
    · go_wp2_with fail
      go_ret
      exact ⟨by rw [← HV.out]; simp [hapB, h1, h2], B1.out⟩
    · by_cases h3 : e.k = 8
      · go_wp2_with fail
        go_ret
        exact ⟨by rw [← HV.out]; simp [hapB, h1, h3], B1.out⟩
      · by_cases h4 : e.k = 9
        · go_wp2_with fail
          go_ret
          exact ⟨by rw [← HV.out]; simp [hapB, h1, h4], B1.out⟩
        · go_wp2_with fail
          go_ret
          exact ⟨by rw [← HV.out]; simp [hapB, h1, h2, h3, h4], B1.out⟩
  · go_wp2_with fail
    go_ret
    exact ⟨by rw [← HV.out]; simp [hapB, h1], B1.out⟩
/-! ## sources -/
theorem srcB_len (K : List (Int × Int)) (n : Nat) (d : List EvR) : (srcB K n d).length = d.length := by
  induction d generalizing K n with
  | nil => rfl
  | cons x d ih => show (srcB _ _ d).length + 1 = _; rw [ih]; rfl
/-- What was released last, by ID, behind d. -/
def lastB (K : List (Int × Int)) (n : Nat) : List EvR → List (Int × Int)
  | [] => K
  | e :: d => lastB (if e.k = 2 then kput e.i (n : Int) K else K) (n + 1) d
theorem srcB_snoc (K : List (Int × Int)) (n : Nat) (d : List EvR) (e : EvR) : srcB K n (d ++ [e]) = srcB K n d ++ [if e.k = 3 then (kget e.i (lastB K n d)).getD 0 else 0] := by
  induction d generalizing K n with
  | nil => rfl
  | cons x d ih => exact congrArg (List.cons _) (ih _ _)
theorem lastB_snoc (K : List (Int × Int)) (n : Nat) (d : List EvR) (e : EvR) : lastB K n (d ++ [e]) = if e.k = 2 then kput e.i ((n + d.length : Nat) : Int) (lastB K n d) else lastB K n d := by
  induction d generalizing K n with
  | nil => rfl
  | cons x d ih =>
    show lastB _ (n + 1) (d ++ [e]) = _
    rw [ih]
    show _ = if e.k = 2 then kput e.i _ (lastB _ (n + 1) d) else _
    rw [List.length_cons, show n + 1 + d.length = n + (d.length + 1) by omega]
    rfl
theorem lastB_keys (K : List (Int × Int)) (n : Nat) (d : List EvR) (h : Keys K) : Keys (lastB K n d) := by
  induction d generalizing K n with
  | nil => exact h
  | cons x d ih =>
    refine ih _ _ ?_
    split
    · exact keys_put h
    · exact h
def ivV (x : Int) : Value := .int .i64 x
theorem zeroI (w : World) : (zeroValue 3).run Try.prog w = .ok (.int .i64 0) w := by kernel_rfl
/-- A map from whole numbers to whole numbers, of at most c entries. -/
def MapI (w : World) (M : Nat) (K : List (Int × Int)) (c : Nat) : Prop := Keys K ∧ ∃ n, n ≤ c ∧ MapG keyI w M (fun i => (kget i K).map ivV) n
theorem MapI.lt {M c : Nat} {K : List (Int × Int)} (h : MapI w M K c) : M < w.heap.size := by obtain ⟨_, n, _, h⟩ := h; exact h.lt
theorem MapI.below {M c : Nat} {K : List (Int × Int)} (h : MapI w M K c) (hb : Below w.heap.size w w') : MapI w' M K c := by
  have l := h.lt
  obtain ⟨k, n, h1, h⟩ := h
  exact ⟨k, n, h1, h.of_block (hb.block M l)⟩
theorem MapI.of_block {M c : Nat} {K : List (Int × Int)} (h : MapI w M K c) (e : w'.heap[M]? = w.heap[M]?) : MapI w' M K c := by
  obtain ⟨k, n, h1, h⟩ := h
  exact ⟨k, n, h1, h.of_block e⟩
theorem MapI.made (w : World) : MapI (w.alloc (.map #[] 0)) w.heap.size [] 0 := ⟨keys_nil, 0, Nat.le_refl _, MapG.made keyI w⟩
theorem MapI.wide {M c c' : Nat} {K : List (Int × Int)} (h : MapI w M K c) (hc : c ≤ c') : MapI w M K c' := by
  obtain ⟨k, n, h1, h⟩ := h
  exact ⟨k, n, by omega, h⟩
theorem MapI.put {M c : Nat} {K : List (Int × Int)} (h : MapI w M K c) (hc : c ≤ 100000) {i : Int} (hi : wfI i) (x : Int) : ∃ w', (Instr.mapUpdate 45 (.map (some M)) (.int .i64 i) (.int .i64 x)).run Try.prog w = .ok () w' ∧ MapI w' M (kput i x K) (c + 1) ∧ w.grownBy w' (some M) := by
  obtain ⟨k, n, hn, hm⟩ := h
  obtain ⟨w1, m, hr, hq, hmn, hg⟩ := hm.store (t := 45) Try.underlying45 (by omega) (x := i) hi (ivV x)
  rw [fput_kput] at hq
  exact ⟨w1, hr, ⟨keys_put k, m, by rw [hmn]; split <;> omega, hq⟩, hg⟩
theorem MapI.del {M c : Nat} {K : List (Int × Int)} (h : MapI w M K c) {i : Int} (hi : wfI i) : ∃ w', (Builtin.delete_ #[45, 3] 0 #[.map (some M), .int .i64 i]).run Try.prog w = .ok (.tuple #[]) w' ∧ MapI w' M (kdel i K) c ∧ w.grownBy w' (some M) := by
  obtain ⟨k, n, hn, hm⟩ := h
  obtain ⟨w1, m, hr, hq, hmn, hg⟩ := hm.del (t := 45) Try.underlying45 (x := i) hi 0
  rw [fdel_kdel] at hq
  exact ⟨w1, hr, ⟨keys_del k, m, by omega, hq⟩, hg⟩
theorem MapI.look {M c : Nat} {K : List (Int × Int)} (h : MapI w M K c) {x : Int} (hx : wfI x) : (Instr.lookup 45 (.map (some M)) (.int .i64 x) false).run Try.prog w = .ok (.int .i64 ((kget x K).getD 0)) w := by
  obtain ⟨k, n, hn, hm⟩ := h
  have := hm.look (t := 45) Try.underlying45 (zeroI w) (x := x) hx
  show (Instr.lookup 45 (.map (some M)) (keyI.ek x) false).run Try.prog w = _
  rw [this]
  cases kget x K <;> rfl
theorem MapI.lookOk {M c : Nat} {K : List (Int × Int)} (h : MapI w M K c) {x : Int} (hx : wfI x) : (Instr.lookup 45 (.map (some M)) (.int .i64 x) true).run Try.prog w = .ok (.tuple #[.int .i64 ((kget x K).getD 0), .bool (kget x K).isSome]) w := by
  obtain ⟨k, n, hn, hm⟩ := h
  have := hm.lookOk (t := 45) Try.underlying45 (zeroI w) (x := x) hx
  show (Instr.lookup 45 (.map (some M)) (keyI.ek x) true).run Try.prog w = _
  rw [this]
  cases kget x K <;> rfl
end
end Go.Proofs.Ytpcmdbpgplcnnaa
