/- A row of events of a law's own in a box: one or two more at its end. The rows that the laws make, as plain lists, and what is told of them. -/
import Derived.Test.YtpcmdbpgplcnnaaBnW
namespace Go.Proofs.Ytpcmdbpgplcnnaa
open Go.RowKit Go.Lib Go.WideMaps Go.Maps
set_option linter.unusedVariables false

section
variable {α : Type} {R : RowT α} {w w' : World} {base : Nat} {d : List α} {v : Value}
/-- Two more at the end of a slice of the call's own. -/
theorem OwnG.pushs (o : OwnG R w base v d) (x y : α) (hd : d.length < 1000000) (hb : base ≤ w.heap.size) (ty : TypeId) :
    ∃ v' w', (Builtin.append_ #[R.st, R.st] ty #[v, .slice (some ⟨w.heap.size, 0, none⟩) 2 2]).run Try.prog (w.alloc (.cells (R.enc x ++ R.enc y).toArray R.et)) = .ok v' w' ∧ OwnG R w' base v' (d ++ [x, y]) ∧ Below base w w' := by
  obtain ⟨i, hi, hz, hs, hby⟩ := R.info
  have b1 := bel1 w (.cells (R.enc x ++ R.enc y).toArray R.et)
  have o1 := o.below b1
  have sz : (d.length + 2) * R.nb ≤ 1000001 * 1000 := Nat.mul_le_mul (by omega) R.small
  obtain ⟨v', w', h1, h2, h3, h4⟩ := run_append_own (P := Try.prog) (w.alloc (.cells (R.enc x ++ R.enc y).toArray R.et)) base R.st ty R.et i _ R.k R.nb R.und hi hz hs hby R.zs R.kpos v d.length (R.flat d) o1 ⟨w.heap.size, 0, none⟩ 2 2 (R.enc x ++ R.enc y) (by rw [List.length_append, R.len, R.len]; omega)
    (fun j u hu => by
      rw [Addr.add_lit, Nat.zero_add, cell_fresh, List.getElem?_toArray, hu]) (fun u hu => (List.mem_append.1 hu).elim (R.one x u) (R.one y u)) (by unfold maxLen; omega) (by omega) (by have := b1.size; omega)
  refine ⟨v', w', h1, ?_, ?_⟩
  · unfold OwnG
    rw [List.length_append, flat_append, show R.flat [x, y] = R.enc x ++ R.enc y by simp [RowT.flat]]
    exact h2
  · exact (b1.mono hb).grown h3 (by have := b1.size; omega) (fun k hk => (World.ownsRow.lt o1 k hk).1)
end
/-! ## The rows -/
def mkE (i : Int) : EvR := ⟨1, -1, i, 0, 0, 0⟩
def relE (i : Int) (y : Nat) : EvR := ⟨2, 0, i, y, 0, 0⟩
/-- So many that are made and released, from an ID and a key on. -/
def putsL (i : Nat) (y : Nat) : Nat → List EvR
  | 0 => []
  | n + 1 => putsL i y n ++ [mkE ((i + n : Nat) : Int), relE ((i + n : Nat) : Int) (y + n)]
def rows1 (a : Nat) : List EvR := [mkE 1, relE 1 50] ++ putsL 2 0 a
def rows2 (a b : Nat) : List EvR := (rows1 a ++ [⟨10, 1, 1, 50, 0, 0⟩]) ++ putsL (a + 2) 20 b
def rows3 (a b : Nat) : List EvR := rows2 a b ++ [mkE ((a + b + 2 : Nat) : Int), relE ((a + b + 2 : Nat) : Int) 77]
def rowsL (a b : Nat) : List EvR := rows3 a b ++ [⟨3, 1, 1, 50, 0, 0⟩]
def rowsOk (a b : Nat) : Bool :=
  decide (pasB (rowsL a b) (rows3 a b).length ⟨3, 1, 1, 50, 0, 0⟩ = a) && (decide (rhoB rb0 0 0 (rowsL a b) = a) && decide (waitF (rowsL a b) 1 (relE 1 50) = 0))
/-- So many that are released with key nought, from an ID on. -/
def relsL (i : Nat) : Nat → List EvR
  | 0 => []
  | n + 1 => relsL i n ++ [mkE ((i + n : Nat) : Int), relE ((i + n : Nat) : Int) 0]
def clE (i : Nat) (y : Nat) : EvR := ⟨3, 0, i, y, i, 0⟩
/-- All but one are claimed. -/
def clsL (a : Nat) : Nat → List EvR
  | 0 => []
  | n + 1 => clsL a n ++ (if n + 1 = a + 1 then [] else [clE (n + 1) 0])
def wait1 (a : Nat) : List EvR := relsL 1 a ++ [mkE ((a + 1 : Nat) : Int), relE ((a + 1 : Nat) : Int) 900]
def wait2 (a b : Nat) : List EvR := wait1 a ++ relsL (a + 2) b
def waitL (a b : Nat) : List EvR := (wait2 a b ++ clsL a (a + b + 1)) ++ [⟨3, 0, ((a + 1 : Nat) : Int), 900, 0, 0⟩]
def waitOk (a b : Nat) : Bool :=
  decide (waitF (waitL a b) (2 * a + 1) (relE ((a + 1 : Nat) : Int) 900) = b) && (decide (behB [] 0 0 (waitL a b) = ((a + b : Nat) : Int)) && (betaL 3 0 (waitL a b) (srcB [] 0 (waitL a b)) == decide (b ≤ 3)))
end Go.Proofs.Ytpcmdbpgplcnnaa
