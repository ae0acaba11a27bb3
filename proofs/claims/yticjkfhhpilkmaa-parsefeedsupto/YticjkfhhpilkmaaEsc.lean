/- What 'escaped' do to the world: each answers what the plain machine answers. -/
import Derived.Test.YticjkfhhpilkmaaBase
namespace Go.Proofs.Yticjkfhhpilkmaa
open Go.RowKit

set_option maxHeartbeats 400000 in
theorem escaped_any (base : Nat) (a0 : Option Addr) (b : Int) (w : World) (hbase : base ≤ w.heap.size) :
    Calls Try.prog 28 #[.int .i64 b] w fun e w' => StepEnd base w a0 (escF b) e w' := by
  go_enter Try.func28, Try.ntmps28
  go_wp2
  · have h : b = 27 := by simpa using ‹(b == 27) = true›
    refine bodyPost_ret (v := .tuple #[.agg #[.int .i64 1, .slice none 0 0, .string ⟨#[]⟩, .bool false], .agg #[.int .i64 0, .int .i64 0, .slice none 0 0, .string ⟨#[]⟩]]) (by simp [results, Try.results28, go_sem]) rfl ?_
    exact end_nil (by simp [escF, h]) (by simp [escF, h, noEv]) (by simp [escF, h, noEv]) (((Below.refl _ _).alloc (Nat.le_refl _) _).alloc (by simp) _)
  · have h : b = 91 := by simpa using ‹(b == 91) = true›
    refine bodyPost_ret (v := .tuple #[.agg #[.int .i64 2, .slice (some ⟨w.heap.size + 1 + 1, 0, none⟩) 1 1, .string ⟨#[]⟩, .bool false], .agg #[.int .i64 0, .int .i64 0, .slice none 0 0, .string ⟨#[]⟩]]) (by simp [results, Try.results28, go_sem]) rfl ?_
    subst h
    refine ⟨some ⟨w.heap.size + 1 + 1, 0, none⟩, 1, none, 0, rfl, ?_, own_nil _ _, Below.toGrown ((((Below.refl _ _).alloc (Nat.le_refl _) _).alloc (by simp) _).alloc (by simp; omega) _) _, .inr (.inr ⟨w.heap.size + 1 + 1, rfl, by omega⟩), .inl rfl⟩
    have := World.ownsRow_lit (base := base) (e := 3) (size := 1) ((w.alloc (Obj.cells #[Value.int IntKind.i64 2, Value.slice (some ⟨w.heap.size + 1 + 1, 0, none⟩) 1 1, Value.string ⟨#[]⟩, Value.bool false] 24)).alloc (Obj.cells #[Value.int IntKind.i64 0, Value.int IntKind.i64 0, Value.slice none 0 0, Value.string ⟨#[]⟩] 37)) #[.int .i64 0] 1 (by simp; omega) (by decide) rfl
    simpa [Own, ints, escF] using this
  · have h : b = 80 := by simpa using ‹(b == 80) = true›
    refine bodyPost_ret (v := .tuple #[.agg #[.int .i64 3, .slice none 0 0, .string ⟨#[]⟩, .bool false], .agg #[.int .i64 0, .int .i64 0, .slice none 0 0, .string ⟨#[]⟩]]) (by simp [results, Try.results28, go_sem]) rfl ?_
    exact end_nil (by simp [escF, h]) (by simp [escF, h, noEv]) (by simp [escF, h, noEv]) (((Below.refl _ _).alloc (Nat.le_refl _) _).alloc (by simp) _)
  · have h : b = 99 := by simpa using ‹(b == 99) = true›
    refine bodyPost_ret (v := .tuple #[.agg #[.int .i64 0, .slice none 0 0, .string ⟨#[]⟩, .bool false], .agg #[.int .i64 5, .int .i64 0, .slice none 0 0, .string ⟨#[]⟩]]) (by simp [results, Try.results28, go_sem]) rfl ?_
    exact end_nil (by simp [escF, h, ground]) (by simp [escF, h]) (by simp [escF, h, ground]) (((Below.refl _ _).alloc (Nat.le_refl _) _).alloc (by simp) _)
  · have h1 : b ≠ 27 := by simpa using ‹(b == 27) = false›
    have h2 : b ≠ 91 := by simpa using ‹(b == 91) = false›
    have h3 : b ≠ 80 := by simpa using ‹(b == 80) = false›
    have h4 : b ≠ 99 := by simpa using ‹(b == 99) = false›
    refine bodyPost_ret (v := .tuple #[.agg #[.int .i64 0, .slice none 0 0, .string ⟨#[]⟩, .bool false], .agg #[.int .i64 0, .int .i64 0, .slice none 0 0, .string ⟨#[]⟩]]) (by simp [results, Try.results28, go_sem]) rfl ?_
    exact end_nil (by simp [escF, h1, h2, h3, h4, ground]) (by simp [escF, h1, h2, h3, h4, noEv]) (by simp [escF, h1, h2, h3, h4, ground, noEv]) (((Below.refl _ _).alloc (Nat.le_refl _) _).alloc (by simp) _)
end Go.Proofs.Yticjkfhhpilkmaa
