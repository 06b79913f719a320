/- A map whose keys are texts, as the kit's contracts of sorted keys ask for it: any number of keys. -/
import Derived.Test.YtbgfccanbgpjiaaISeq
namespace Go.Proofs.Ytbgfccanbgpjiaa.O.I
open Go Go.RowKit Go.Lib Go.Shelf KM

theorem rd_of {e : MapEntry} {k : ByteArray} (hk : k.size ≤ maxLen) (h : e.key = .string k) : WideElems.rd Try.prog 9 (fun _ => some ((DataW.nil : DataW Unit), [])) e = some (.string k.data.toList, .nil) := by
  unfold WideElems.rd
  rw [h, WideMaps.keyOf_string_mk (P := Try.prog) Try.underlying9 hk]
  rfl
theorem rgs_of : ∀ (l : List MapEntry) (m : List (ByteArray × Value)), KM.Holds encS l m → (∀ p ∈ m, p.1.size ≤ maxLen) →
    l.map (WideElems.rg Try.prog 9 (fun _ => some ((DataW.nil : DataW Unit), []))) = m.map fun p => (Lit.string p.1.data.toList, (DataW.nil : DataW Unit))
  | [], m, h, _ => by rw [h.nil]; rfl
  | e :: l, m, h, hk => by
    obtain ⟨p, r, rfl, ⟨h1, -⟩, h3⟩ := h.cons_inv
    rw [List.map_cons, List.map_cons, rgs_of l r h3 (fun q hq => hk q (.tail _ hq)), WideElems.rg_of (rd_of (hk p (.head _)) h1)]
/-- The datum of a map of texts. -/
def datum (m : List (ByteArray × Value)) : DataW Unit := .map ((m.map fun p => (Lit.string p.1.data.toList, (DataW.nil : DataW Unit))).foldr DataW.insert [])
theorem datum_size (m : List (ByteArray × Value)) : Maps.size (datum m) = m.length := by
  unfold datum
  show (List.foldr DataW.insert [] _).length = _
  rw [(WideShapes.sorted_perm _).length_eq, List.length_map]
theorem datum_keys (m : List (ByteArray × Value)) : (strKeys (datum m)).Perm (m.map fun p => p.1.data.toList) := by
  unfold datum
  show (List.map _ (List.foldr DataW.insert [] _)).Perm _
  refine ((WideShapes.sorted_perm _).map _).trans ?_
  rw [List.map_map]
  exact List.Perm.of_eq (List.map_congr_left fun p _ => rfl)
theorem owns_any {W : World} {mb : Nat} {m : List (ByteArray × Value)} (hk : ∀ p ∈ m, p.1.size ≤ maxLen) (hl : m.length ≤ maxLen) (hm : IsMap encS W mb m) (hst : Stamp W mb) :
    W.ownsMap Try.prog 9 (fun _ => some ((DataW.nil : DataW Unit), [])) mb m.length (datum m) := by
  obtain ⟨es, clock, hb, hh⟩ := hm
  obtain ⟨es', clock', hb', hs'⟩ := hst
  rw [hb] at hb'
  cases hb'
  have hlen : es.size = m.length := by rw [← hh.length]; simp
  refine ⟨es, clock, hb, ⟨by omega, hs', fun x hx => ?_⟩, by omega, ?_⟩
  · have h1 : (x.key, x.val) ∈ es.toList.map (fun e => (e.key, e.val)) := List.mem_map.2 ⟨x, hx, rfl⟩
    rw [show es.toList.map (fun e => (e.key, e.val)) = m.map (fun p => (encS p.1, p.2)) from hh] at h1
    obtain ⟨p, hp, he⟩ := List.mem_map.1 h1
    exact ⟨_, rd_of (hk p hp) (Prod.mk.inj he).1.symm⟩
  · unfold datum
    rw [rgs_of _ _ hh hk]
end Go.Proofs.Ytbgfccanbgpjiaa.O.I
