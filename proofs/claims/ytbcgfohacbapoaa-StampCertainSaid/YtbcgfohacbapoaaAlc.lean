
/- New blocks, one after the other. No conditions. -/
import Derived.Test.YtbcgfohacbapoaaMem
namespace Go.Proofs.Ytbcgfohacbapoaa
open Go.RowKit Go.Lib

/-- New blocks, one after the other. -/
def allocs (w : World) : List (Array Value × TypeId) → World
  | [] => w
  | x :: r => allocs (w.alloc (.cells x.1 x.2)) r
theorem allocs_size : ∀ (l : List (Array Value × TypeId)) (w : World), (allocs w l).heap.size = w.heap.size + l.length
  | [], _ => rfl
  | x :: r, w => by
    show (allocs _ r).heap.size = _
    rw [allocs_size r]; simp; omega
theorem allocs_below : ∀ (l : List (Array Value × TypeId)) (w : World) {B : Nat} {w0 : World}, Below B w0 w → B ≤ w.heap.size → Below B w0 (allocs w l)
  | [], _, _, _, h, _ => h
  | x :: r, w, _, _, h, hB => allocs_below r _ (h.alloc hB _) (by simp; omega)
theorem allocs_keep : ∀ (l : List (Array Value × TypeId)) (w : World) {g : Nat} {t : TypeId} {cs : Array Value}, Blk w g t cs → Blk (allocs w l) g t cs
  | [], _, _, _, _, h => h
  | _ :: r, _, _, _, _, h => allocs_keep r _ (h.alloc _)
theorem allocs_blk : ∀ (l : List (Array Value × TypeId)) (w : World) (i : Nat) (x : Array Value × TypeId), l[i]? = some x → Blk (allocs w l) (w.heap.size + i) x.2 x.1
  | y :: r, w, 0, x, h => by
    simp at h
    subst h
    exact allocs_keep r _ (Blk.new w _ _)
  | y :: r, w, i + 1, x, h => by
    have h2 := allocs_blk r (w.alloc (.cells y.1 y.2)) i x (by simpa using h)
    rw [show (w.alloc (.cells y.1 y.2)).heap.size + i = w.heap.size + (i + 1) from by simp; omega] at h2
    exact h2
end Go.Proofs.Ytbcgfohacbapoaa
