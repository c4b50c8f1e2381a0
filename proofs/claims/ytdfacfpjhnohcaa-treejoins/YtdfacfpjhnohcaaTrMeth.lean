
/- Which functions the heap's calls are. -/
import Derived.Test.YtdfacfpjhnohcaaTrFace
namespace Go.Proofs.Ytdfacfpjhnohcaa
open Go.RowKit
set_option linter.unusedVariables false
set_option maxRecDepth 100000

theorem nil_chk (a : Addr) (s m : String) (ts : Array TypeId) (t : TypeId) : Builtin.ssaWrapNilChk_ ts t #[.pointer (some a), strVal s, strVal m] = pure (.pointer (some a)) := rfl
theorem meth_load (name : String) (f : FuncId) (h2 : (Try.prog.info? 79).map (fun i => (i.methods.find? (·.name == name)).map (fun m => (m.path.toList, m.func))) = some (some ([], some (f, false)))) (b : Nat) (v : Value) (w : World) (h : w.cell? ⟨b, 0, none⟩ = some v) :
    Sem.run Try.prog (method 240 79 (.pointer (some ⟨b, 0, none⟩)) name) w = .ok (f, v) w := by
  have h1 : Sem.run Try.prog (loadVar 61 ⟨b, 0, none⟩) w = .ok v w := by
    simp [loadVar, go_sem, h]
  have h3 : Try.prog.underlying 79 = some (.pointer 61) := by kernel_rfl
  cases hi : Try.prog.info? 79 with
  | none => rw [hi] at h2; cases h2
  | some i =>
    rw [hi] at h2
    cases hm : i.methods.find? (·.name == name) with
    | none => simp [hm] at h2
    | some m =>
      simp [hm] at h2
      obtain ⟨hp, hf⟩ := h2
      unfold method
      simp [go_sem, typeInfo, hi, hm, hp, hf, follow, receiverAt, h3, Place.get, underlying, nil_chk, asAddr, h]
theorem meth_less (b : Nat) (v : Value) (w : World) (h : w.cell? ⟨b, 0, none⟩ = some v) : Sem.run Try.prog (method 240 79 (.pointer (some ⟨b, 0, none⟩)) "Less") w = .ok (73, v) w := meth_load _ _ (by kernel_rfl) b v w h
theorem meth_len (b : Nat) (v : Value) (w : World) (h : w.cell? ⟨b, 0, none⟩ = some v) : Sem.run Try.prog (method 240 79 (.pointer (some ⟨b, 0, none⟩)) "Len") w = .ok (18, v) w := meth_load _ _ (by kernel_rfl) b v w h
theorem meth_swap (b : Nat) (v : Value) (w : World) (h : w.cell? ⟨b, 0, none⟩ = some v) : Sem.run Try.prog (method 240 79 (.pointer (some ⟨b, 0, none⟩)) "Swap") w = .ok (76, v) w := meth_load _ _ (by kernel_rfl) b v w h
end Go.Proofs.Ytdfacfpjhnohcaa
