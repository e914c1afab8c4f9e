/- The program's own copy of a disk, with room for its sectors: a contract; no statement of the seat is proved here. -/
import Derived.Test.YtapflnabiobonaaDoorSRead2
namespace Go.Proofs.YtapflnabiobonaaDoor
open Go.RowKit

theorem RowA.capLe {w : World} {base n cap : Nat} {ao : Option Addr} {e : TypeId} {cs : List Value} (h : RowA w base e 1 (.slice ao n cap) n cs) : n ≤ cap := by
  rcases Nat.eq_zero_or_pos n with rfl | hp
  · omega
  · obtain ⟨g, c, ev, hc, -⟩ := h.cap hp
    simp only [Value.slice.injEq, true_and] at ev
    omega

set_option maxRecDepth 100000 in
set_option maxHeartbeats 2000000 in
theorem secOwnC_any (kept : List ByteArray) (wait : List (Int × ByteArray)) (v : Value) (w : World) (hr : DiskR w v kept wait) (hk : kept.length ≤ 1048576) (hw : wait.length ≤ 1048576) :
    Calls Tryd.prog 58 #[v] w fun e w' => ∃ no cn vw, e = .returned (.agg #[.slice no kept.length cn, vw]) ∧ kept.length ≤ cn ∧ Row w' 9 1 (fun k => w.heap.size ≤ k) (.slice no kept.length cn) kept.length (kept.map Value.string) ∧ RowA w' w.heap.size 63 2 vw wait.length (wcells wait) ∧ Below w.heap.size w w' := by
  obtain ⟨ak, aw, rfl, a1, a2⟩ := hr
  obtain ⟨ao, ca, rfl⟩ : ∃ ao ca, ak = .slice ao kept.length ca := by obtain ⟨ao, ca, h, -⟩ := a1; exact ⟨ao, ca, h⟩
  obtain ⟨bo, cb, rfl⟩ : ∃ ao ca, aw = .slice ao wait.length ca := by obtain ⟨ao, ca, h, -⟩ := a2; exact ⟨ao, ca, h⟩
  have hal : Below w.heap.size w ((w.alloc (.cells #[.slice ao kept.length ca, .slice bo wait.length cb] 31)).alloc (.cells #[.slice none 0 0, .slice none 0 0] 94)) := ((Below.refl _ _).alloc (Nat.le_refl _) _).alloc (by simp) _
  obtain ⟨W, hW⟩ : ∃ W, W = (w.alloc (.cells #[.slice ao kept.length ca, .slice bo wait.length cb] 31)).alloc (.cells #[.slice none 0 0, .slice none 0 0] 94) := ⟨_, rfl⟩
  have B0 : W.heap[w.heap.size]? = some (.cells #[.slice ao kept.length ca, .slice bo wait.length cb] 31 (0, 0)) := by rw [hW]; exact al2_0 w _ _
  have B1 : W.heap[w.heap.size + 1]? = some (.cells #[.slice none 0 0, .slice none 0 0] 94 (0, 0)) := by rw [hW]; exact al2_1 w _ _
  have hsz : W.heap.size = w.heap.size + 2 := by rw [hW]; simp
  rw [← hW] at hal
  have k1 := hide (a1.keep hal)
  have k2 := hide (a2.keep hal)
  clear a1 a2
  obtain ⟨i0, hi, hz0, hz1, hz2⟩ := info_parts infoStr
  obtain ⟨i1, gi, gz0, gz1, gz2⟩ := info_parts infoWr
  go_enter Tryd.func58, Tryd.ntmps58
  go_wp2
  rw [← hW]
  clear hW
  obtain ⟨p0, p1, pl⟩ := box2 B0
  obtain ⟨q0, q1, ql⟩ := box2 B1
  obtain ⟨q2, q3⟩ := box2f B1
  have H0 := hide B0
  have H1 := hide B1
  clear B0 B1
  go_region_law (first
    | (refine step_copyA rfl (.const (.slice none 0 0)) (.tmp 4) 22 rfl W.heap.size 9 i0 (.string ⟨#[]⟩) 1 16 Tryd.underlying22 hi hz0 hz1 hz2 rfl (by decide) (.slice none 0 0) (by simp [Act.eval]) (World.ownsRow_nil _ _ _ _) (.slice ao kept.length ca) kept.length (kept.map Value.string) (by simp [Act.eval, Act.put]) (k1.out.keep ((Below.refl _ _).drew)) (strs_one _) hk (by omega) (by simp) ?_; intro v1 w1 r1' b1; have r1 := r1'.row (by omega); obtain ⟨no, cn, rfl⟩ := r1.shape; have hcap := r1'.capLe; clear r1'; have b1' : Below W.heap.size W w1 := bUndrew b1; have s0 : w1.cell? ⟨w.heap.size, 1, none⟩ = some (.slice bo wait.length cb) := (b1'.cell (p := ⟨w.heap.size, 1, none⟩) pl).trans p1)
    | (refine step_copyA rfl (.const (.slice none 0 0)) (.tmp 8) 29 rfl w1.heap.size 63 i1 (.agg #[.int .i64 0, .string ⟨#[]⟩]) 2 24 Tryd.underlying29 gi gz0 gz1 gz2 rfl (by decide) (.slice none 0 0) (by simp [Act.eval]) (World.ownsRow_nil _ _ _ _) (.slice bo wait.length cb) wait.length (wcells wait) (by simp [Act.eval, Act.put]) (k2.out.keep b1') (wcells_one _) hw (by omega) (Nat.le_refl _) ?_; intro v2 w2 r2 b2; obtain ⟨mo, cm, rfl⟩ := r2.shape; obtain ⟨t0, t1, tl⟩ := box2 (bKeeps b2 (bKeeps b1' H1.out)); obtain ⟨t2, t3⟩ := box2f (bKeeps b2 (bKeeps b1' H1.out))))
  all_goals
    go_wp2
    have hu := upd_set2 w2 (w.heap.size + 1) 0 1 (.slice no kept.length cn) (.slice mo wait.length cm)
    have hz1' := b1'.size
    have hz2' := b2.size
    refine bodyPost_ret (v := .agg #[.slice no kept.length cn, .slice mo wait.length cm]) (by simp [results, Tryd.results58, go_sem, t0, t1]) rfl ⟨_, _, _, rfl, hcap, ?_, ?_, ?_⟩
    · exact ((r1.keepB b2).keep hu (by intro k hk; omega)).mono (fun k _ hk => by omega)
    · exact (r2.keep hu (by intro k hk; omega)).mono (by omega)
    · exact ((bAll hal b1').trans (b2.mono (by omega))).trans (hu.below (by omega) (by intro k hk; omega))

end Go.Proofs.YtapflnabiobonaaDoor
