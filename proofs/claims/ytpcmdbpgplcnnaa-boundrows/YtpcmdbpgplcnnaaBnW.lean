/- What the document fixes of layer 22: awake. -/
import Derived.Test.YtpcmdbpgplcnnaaBnI
namespace Go.Proofs.Ytpcmdbpgplcnnaa
open Go.RowKit Go.Lib Go.WideMaps Go.Maps
set_option linter.unusedVariables false

theorem phi_is {t n o v : Int} (h : inB t * (inB n * (inB o + 5) + 5) = v) (w : World) : Calls Try.prog 14 #[.int .i64 t, .int .i64 n, .int .i64 o] w fun e w' => e = .returned (.int .i64 v) ∧ w' = w := by
  rw [← h]
  exact phi_any t n o w
theorem awake_any (w : World) : Calls Try.prog 10 #[] w fun r w' => r = .returned (.bool true) ∧ Below w.heap.size w w' := by
  have p1 := phi_is (t := 1) (n := 1) (o := 0) (v := 10) (by decide) w
  have p2 := rho_any (IsG.nil rE w) (by decide) (by simp)
  go_enter Try.func10, Try.ntmps10
  go_wp2_with fail
  refine p1.mono ?_
  rintro r w0 ⟨rfl, rfl⟩
  go_wp2_with fail
  refine p2.mono ?_
  rintro r w1 ⟨rfl, b1⟩
  have p3 := passed_out (a := none) (cap := 0) (d := []) (n := 0) (.inr (by decide)) w1
  have p4 := waitedF_out (a := none) (cap := 0) (d := []) (n := 0) (.inr (by decide)) w1
  have B1 : Aside (Below w0.heap.size w0 w1) := b1
  have hr : rhoB rb0 0 0 [] = 0 := rfl
  rw [hr]
  clear b1 p1 p2
  go_wp2_with fail
  refine p3.mono ?_
  rintro r w2 ⟨rfl, rfl⟩
  go_wp2_with fail
  refine p4.mono ?_
  rintro r w3 ⟨rfl, rfl⟩
  go_wp2_with fail
  go_ret
  exact ⟨rfl, B1.out⟩
end Go.Proofs.Ytpcmdbpgplcnnaa
