/- A table in the heap, told by its tasks alone: Again, Get. -/
import Derived.Test.YtpenjncbodcbnaaDoorTbH
import Derived.Test.YtpenjncbodcbnaaDoorTbF
import Derived.Test.YtpenjncbodcbnaaDoorTbG
namespace Go.Proofs.YtpenjncbodcbnaaDoor
open Go.RowKit Go.Lib Go.WideMaps Go.Maps
set_option linter.unusedVariables false
variable {w w' w0 u : World} {X X' Y : Nat → Prop} {B n i S : Nat} {T T' : List TR} {x y : TR}
theorem againG (h : Tb w X B n T) (hi : T[i]? = some x) (now : Int) (hf : IsT x.f) (hp : IsT x.p) (hd : IsT x.d) (hw : IsT now) (hok : Tk.okJ x.f x.p x.d = true) (hgo : gridOk x.f x.p (max now x.d) = true) :
    Calls Tryd.prog 12 #[.pointer (some ⟨B, 0, none⟩), .int .i64 ((i : Int) + 1), .int .u64 now] w fun e w' => e = .returned (.tuple #[.int .u64 (Tk.dueJ x.f x.p x.d now), .bool true]) ∧ Tb w' X B n (T.set i (agnT x now)) ∧ Sx X w X w' := by
  obtain ⟨hn, a, b, r, M, v, ws, fc, D, I, hX⟩ := h
  obtain ⟨g, cap, rfl⟩ := D.len hi
  refine (again_ok D I hn hi now hf hp hd hw hok hgo).mono ?_
  rintro e w' ⟨rfl, D', F⟩
  exact ⟨rfl, ⟨hn, a, b, r, M, _, ws, fc, D', I.same hi rfl rfl, hX⟩, sx_same hX F⟩
theorem againN (h : Tb w X B n T) (id now : Int) (hi : id < 1 ∨ (T.length : Int) < id) : Calls Tryd.prog 12 #[.pointer (some ⟨B, 0, none⟩), .int .i64 id, .int .u64 now] w fun e w' => e = .returned (.tuple #[.int .u64 0, .bool false]) ∧ w' = w := by
  obtain ⟨hn, a, b, r, M, v, ws, fc, D, I, hX⟩ := h
  exact again_no D id now hi
theorem getG (h : Tb w X B n T) (hi : T[i]? = some x) :
    Calls Tryd.prog 13 #[.pointer (some ⟨B, 0, none⟩), .int .i64 ((i : Int) + 1)] w fun e w' => e = .returned (.tuple #[.agg #[.int .i64 ((i : Int) + 1), .int .i64 x.prio, .int .i64 x.s, .int .u64 x.due, .int .u64 x.key, .int .u64 x.r, .int .u64 x.m], .bool true]) ∧ Tb w' X B n T ∧ Sx X w X w' := by
  obtain ⟨hn, a, b, r, M, v, ws, fc, D, I, hX⟩ := h
  obtain ⟨g, cap, rfl⟩ := D.len hi
  refine (get_any D I hn hi).mono ?_
  rintro e w' ⟨rfl, D', F⟩
  exact ⟨rfl, ⟨hn, a, b, r, M, _, ws, fc, D', I, hX⟩, sx_same hX F⟩
end Go.Proofs.YtpenjncbodcbnaaDoor
