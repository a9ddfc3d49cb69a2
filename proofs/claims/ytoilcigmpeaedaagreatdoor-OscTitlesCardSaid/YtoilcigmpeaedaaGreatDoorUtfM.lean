/-
  Contract of works: the chapter's examples hold: it returns true.
-/
import Derived.Test.YtoilcigmpeaedaaGreatDoorUtfL
namespace Go.Proofs.YtoilcigmpeaedaaGreatDoor.Utf
open Go.RowKit

theorem Rd.lit (w : World) (cs : Array Value) (t : TypeId) : Rd (w.alloc (.cells cs t)) (some ⟨w.heap.size, 0, none⟩) cs.toList := fun j u hu =>
  ⟨_, rfl, by simp, World.news_of_block (heap_alloc_new w _) j u hu⟩

def FlushPost (zs : List Int) (m : Nat) (w : World) (e : Ending) (w' : World) : Prop :=
  ∃ A c, e = .returned (.slice A m c) ∧ Rd w' A (cI zs) ∧ Below w.heap.size w w'
theorem flush_yes (A : Option Addr) (c n m : Nat) (bs : List UInt8) (zs : List Int) (hn : bs.length = n) (hm : zs.length = m) (w : World) (h : Rd w A (cB bs)) (hmk : Mk w) (hc : bs.length ≤ c) (hs : bs.length ≤ 1000000) (hf : flushL bs = zs) :
    Calls Tryz.prog 111 #[.slice A n c] w (FlushPost zs m w) := by
  subst hn; subst hm; subst hf; exact (flush_any A c bs w h hmk hc hs).mono fun _ _ ⟨A', c', he, hr, hb, _⟩ => ⟨A', c', he, hr, hb⟩

end Go.Proofs.YtoilcigmpeaedaaGreatDoor.Utf
