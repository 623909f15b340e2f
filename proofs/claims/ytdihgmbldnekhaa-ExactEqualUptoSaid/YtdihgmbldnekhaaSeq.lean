/-
  A region that draws its order, walked in ONE order: 'true' in the schedule: an operation that yields its value in every world that meets S (or is not wanted), taken first; 'false': an operation that is carried out when nothing else may come up. Behind each of these S is shown anew.
-/
import Derived.Deep.RegionHeld3
namespace Go.Proofs.Ytdihgmbldnekhaa
open Go

section
variable {P : Program} {ops : Array Oper} {Q : Exit → Act → World → Prop} {S : World → Prop}

/-- the region by its schedule -/
def SeqH (P : Program) (ops : Array Oper) (Q : Exit → Act → World → Prop) (S : World → Prop) : List (Bool × Option Oper) → Act → World → Prop
  | [], a, w => Q .normal a w
  | (_, none) :: _, _, _ => False
  | (true, some o) :: r, a, w => ∃ v, YieldsIf P ops S o v a ∧ SeqH P ops Q S r (a.put o.dst v) w
  | (false, some o) :: r, a, w => ∀ K' : Act → World → Prop, Shut (∀ a w, S w → SeqH P ops Q S r a w → K' a w) → if Region.wanted o (yielded ops a.tmps) = true then Oper.wp P o a w K' Q else K' (a.put o.dst undef) w

/-- may the schedule be followed? -/
def seqOk (ops : Array Oper) : List (Bool × Nat) → Array Bool → Bool
  | [], listed => (Region.ready .any ops listed).isEmpty
  | (t, i) :: r, listed => (Region.ready .any ops listed).contains i && (if t then Region.free .any ops listed i else Region.ready .any ops listed == [i]) && seqOk ops r (listed.setIfInBounds i true)

theorem anyH_of_seq (hQ : ∀ c a d v w, Q (.panic c) (Act.put a d v) w → Q (.panic c) a w) (hs : Region.noSelect ops = true) :
    ∀ (sched : List (Bool × Nat)) (listed : Array Bool) (fuel : Nat) (a : Act) (w : World), sched.length ≤ fuel → seqOk ops sched listed = true → S w →
      SeqH P ops Q S (sched.map fun p => (p.1, ops[p.2]?)) a w → wpAnyH P .any ops Q S fuel listed a w := by
  intro sched
  induction sched with
  | nil =>
    intro listed fuel a w _ hok _ h
    have hr : Region.ready .any ops listed = [] := List.isEmpty_iff.1 hok
    exact wpAnyH_done hr h fuel
  | cons p r ih =>
    obtain ⟨t, i⟩ := p
    intro listed fuel a w hlen hok hS h
    obtain ⟨fuel, rfl⟩ : ∃ f, fuel = f + 1 := ⟨fuel - 1, by simp only [List.length_cons] at hlen; omega⟩
    have hlen' : r.length ≤ fuel := by simp only [List.length_cons] at hlen; omega
    simp only [seqOk, Bool.and_eq_true] at hok
    obtain ⟨⟨hready, hkind⟩, hrest⟩ := hok
    simp only [List.map_cons] at h
    cases ho : ops[i]? with
    | none =>
      rw [ho] at h
      cases t <;> exact h.elim
    | some o =>
      rw [ho] at h
      cases t with
      | true =>
        obtain ⟨v, hy, hrec⟩ := h
        exact wpAnyH_take ho hs hkind hready (fun c a w => hQ c a o.dst v w) hy hS (ih _ _ _ _ hlen' hrest hS hrec)
      | false =>
        have hr : Region.ready .any ops listed = [i] := by simpa using hkind
        refine wpAnyH_all hr (by simp) ?_
        intro j hj
        rw [List.mem_singleton] at hj
        subst hj
        refine wpOp_step ho (fun K' hK => h K' ?_)
        intro a' w' hS' hrec
        exact hK a' w' ⟨hS', ih _ _ _ _ hlen' hrest hS' hrec⟩

theorem region_seq {id : Nat} {a : Act} {w : World} (sched : List (Bool × Nat)) (hm : P.follows .mixedOrders = true) (hs : Region.noSelect ops = true)
    (hok : seqOk ops sched (Array.replicate ops.size false) = true) (hlen : sched.length ≤ ops.size) (hS : S w.drew)
    (h : SeqH P ops (NoPanic Q) S (sched.map fun p => (p.1, ops[p.2]?)) a w.drew) : (Code.region id ops true).wp P Q a w :=
  wp_region_noPanic (wp_region_held_drew (S := S) hm hS fun hS => anyH_of_seq (fun _ _ _ _ _ h => h) hs sched _ _ a w.drew hlen hok hS h)

theorem seq_done {a : Act} {w : World} (h : Q .normal a w) : SeqH P ops (NoPanic Q) S [] a w := h
theorem seq_take {o : Oper} {r : List (Bool × Option Oper)} {a : Act} {w : World} {v : Value} (hg : Region.wanted o (yielded ops a.tmps) = true)
    (hy : ∀ w, S w → (execOp a.eval o).run P w = .ok (.value v) w) (h : SeqH P ops Q S r (a.put o.dst v) w) : SeqH P ops Q S ((true, some o) :: r) a w :=
  ⟨v, Or.inl ⟨hg, hy⟩, h⟩
theorem seq_pass {o : Oper} {r : List (Bool × Option Oper)} {a : Act} {w : World} (hg : Region.wanted o (yielded ops a.tmps) = false)
    (h : SeqH P ops Q S r (a.put o.dst undef) w) : SeqH P ops Q S ((true, some o) :: r) a w :=
  ⟨undef, Or.inr ⟨hg, rfl⟩, h⟩
theorem seq_call {o : Oper} {r : List (Bool × Option Oper)} {a : Act} {w : World} (hg : Region.wanted o (yielded ops a.tmps) = true)
    (h : ∀ K' : Act → World → Prop, Shut (∀ a w, S w → SeqH P ops Q S r a w → K' a w) → Oper.wp P o a w K' Q) : SeqH P ops Q S ((false, some o) :: r) a w :=
  fun K' hK => by rw [if_pos hg]; exact h K' hK
theorem seq_idle {o : Oper} {r : List (Bool × Option Oper)} {a : Act} {w : World} (hg : Region.wanted o (yielded ops a.tmps) = false) (hS : S w)
    (h : SeqH P ops Q S r (a.put o.dst undef) w) : SeqH P ops Q S ((false, some o) :: r) a w :=
  fun K' hK => by rw [if_neg (by rw [hg]; simp)]; exact hK.out _ _ hS h
end
end Go.Proofs.Ytdihgmbldnekhaa
