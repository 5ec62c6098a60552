import PyProof.Rows.All
import Wide.All
import OpenK.AllK
import Wide.FinOn
import HandS.ForMost
import HandS.IsInst
import HandS.EndBits
import HandS.Wide
import HandS.WideBits
import HandS.TupAny
import HandS.Codes
import HandS.Defaults
import HandS.ForExc
import HandS.TryMany
import HandS.ExcIs
import HandS.TryElse
import HandS.DictComp
import HandS.Walk
import HandS.NoneIn
import HandS.TupLe
import HandS.More
import HandS.Sort
import KE.SortData
import KE.DataMinMax
import KE.DataCmp
import PySem.Challenge.RW_majordomo_k77_what_a_worker_should_do
set_option Elab.async false
set_option linter.all false
set_option maxRecDepth 100000
set_option maxHeartbeats 4000000

namespace My
open PySem PySem.Spec PyProof.Rows L2
/-! own words: tests, heaps, items -/
theorem ifd {p A B : Prop} [Decidable p] (h1 : p → A) (h2 : ¬ p → B) : if decide p = true then A else B := by
  by_cases h : p
  · rw [decide_eq_true h]; exact (if_pos rfl).mpr (h1 h)
  · rw [decide_eq_false h]; exact (if_neg Bool.false_ne_true).mpr (h2 h)
theorem ifn {p A B : Prop} [Decidable p] (h1 : ¬ p → A) (h2 : p → B) : if (!decide p) = true then A else B := by
  by_cases h : p
  · rw [decide_eq_true h]; exact (if_neg Bool.false_ne_true).mpr (h2 h)
  · rw [decide_eq_false h]; exact (if_pos rfl).mpr (h1 h)
theorem ift {p A B : Prop} [Decidable p] (h : p) (h1 : A) : if decide p = true then A else B := by
  rw [decide_eq_true h]; exact (if_pos rfl).mpr h1
theorem iff0 {p A B : Prop} [Decidable p] (h : ¬ p) (h1 : B) : if decide p = true then A else B := by
  rw [decide_eq_false h]; exact (if_neg Bool.false_ne_true).mpr h1
theorem ifnt {p A B : Prop} [Decidable p] (h : p) (h1 : B) : if (!decide p) = true then A else B := by
  rw [decide_eq_true h]; exact (if_neg Bool.false_ne_true).mpr h1
theorem ifbt {b : Bool} {A B : Prop} (h : b = true) (h1 : A) : if b = true then A else B := (if_pos h).mpr h1
theorem ifbf {b : Bool} {A B : Prop} (h : b = false) (h1 : B) : if b = true then A else B := by rw [h]; exact h1
theorem ifb2 {b : Bool} {A B : Prop} (h1 : b = true → A) (h2 : b = false → B) : if b = true then A else B := by
  cases b with
  | true => exact h1 rfl
  | false => exact h2 rfl
theorem same_upd {H : Hp} {p : Addr} {o : HO} (h : H p = none) : Same H (upd H p o) := fun b x e => by
  rw [upd_ne (ne_of_none e h)]
  exact e
theorem same_put {H H' : Hp} {p : Addr} {o : HO} (e : Same H H') (h : H p = none) : Same H (upd H' p o) := fun b x q => by
  rw [upd_ne (ne_of_none q h)]
  exact e b x q
theorem sqt_same {K : PySem.W.Frag} {H H' : Hp} {a : Addr} {xs : List V} (e : Same H H') (h : SqT K H a xs) : SqT K H' a xs := by
  rcases h with (h | ⟨o, h⟩) | h
  · exact .inl (.inl (e _ _ h))
  · exact .inl (.inr ⟨o, e _ _ h⟩)
  · exact .inr h
theorem sql {K : PySem.W.Frag} {H : Hp} {a : Addr} {xs : List V} (h : H a = some (.lst xs)) : SqL K H a xs := .inl (.inl h)
theorem sqt {K : PySem.W.Frag} {H : Hp} {a : Addr} {xs : List V} (h : H a = some (.tup xs)) : SqT K H a xs := .inl (.inl h)
theorem sz {n : Nat} (h : n ≤ 100000) : n ≤ sizeLine := Nat.le_trans h (by decide)
theorem szl {n : Nat} (h : n ≤ 100000) : n < sizeLine := Nat.lt_of_le_of_lt h (by decide)
theorem map_at {α : Type} {f : α → V} {xs : List α} {i : Nat} {y : V} (h : (xs.map f)[i]? = some y) : ∃ x, xs[i]? = some x ∧ y = f x := by
  rw [List.getElem?_map] at h
  cases e : xs[i]? with
  | none => rw [e] at h; cases h
  | some x => rw [e] at h; exact ⟨x, rfl, (Option.some.inj h).symm⟩
theorem at_map {α : Type} {f : α → V} {xs : List α} {i : Nat} {x : α} (h : xs[i]? = some x) : atI (xs.map f) (i : Int) = some (f x) := atI_nat (by rw [List.getElem?_map, h]; rfl)
theorem take_more {α : Type} {l : List α} {i : Nat} {x : α} (h : l[i]? = some x) : l.take (i + 1) = l.take i ++ [x] := by
  rw [List.take_add_one, h]; rfl
/-! deep data stands as long as what was tracked stands -/
mutual
theorem dp_same {K : PySem.W.Frag} {H H' : Hp} (e : Same H H') : ∀ (d : PyData) {v : V}, Dp K H v d → Dp K H' v d
  | _, _, .non => .non
  | _, _, .bl b => .bl b
  | _, _, .int i => .int i
  | _, _, .str x => .str x
  | .list ds, _, .lst h a => .lst (e.seq h) (dpa_same e ds a)
  | .tuple ds, _, .tup h a => .tup (sqt_same e h) (dpa_same e ds a)
theorem dpa_same {K : PySem.W.Frag} {H H' : Hp} (e : Same H H') : ∀ (ds : List PyData) {vs : List V}, DpAll K H vs ds → DpAll K H' vs ds
  | [], _, .nil => .nil
  | d :: ds, _, .cons h a => .cons (dp_same e d h) (dpa_same e ds a)
end
theorem dpa_len {K : PySem.W.Frag} {H : Hp} : ∀ {vs : List V} {ds : List PyData}, DpAll K H vs ds → vs.length = ds.length
  | _, _, .nil => rfl
  | _, _, .cons _ a => by rw [List.length_cons, List.length_cons, dpa_len a]
theorem dpa_at {K : PySem.W.Frag} {H : Hp} : ∀ {vs : List V} {ds : List PyData} {i : Nat} {v : V}, DpAll K H vs ds → vs[i]? = some v → ∃ d, ds[i]? = some d ∧ Dp K H v d
  | _, _, _, _, .nil, h => by simp at h
  | _, _, 0, _, .cons h _, e => ⟨_, rfl, by have := Option.some.inj e; subst this; exact h⟩
  | _, _, i + 1, _, .cons _ a, e => dpa_at (i := i) a (by simpa using e)
theorem dpa_app {K : PySem.W.Frag} {H : Hp} : ∀ {vs ws : List V} {ds es : List PyData}, DpAll K H vs ds → DpAll K H ws es → DpAll K H (vs ++ ws) (ds ++ es)
  | _, _, _, _, .nil, b => b
  | _, _, _, _, .cons h a, b => .cons h (dpa_app a b)
theorem eqv_self {d : PyData} (h : SeqAt.shaped d = true) : PyData.eqv d d = true := SeqAt.eqv_refl d (SeqAt.canLay_of_shaped h)
/-! data that may be compared -/
theorem layAll : ∀ {ds : List PyData}, (∀ d ∈ ds, d.canLay0 = true) → PyData.canLayAll0 ds = true
  | [], _ => rfl
  | d :: ds, h => by
    rw [PyData.canLayAll0, h d List.mem_cons_self, layAll fun e he => h e (List.mem_cons_of_mem _ he)]; rfl
theorem depAll {n : Nat} : ∀ {ds : List PyData}, (∀ d ∈ ds, d.depth ≤ n) → PyData.depthAll ds ≤ n
  | [], _ => Nat.zero_le _
  | d :: ds, h => by
    have h1 := h d List.mem_cons_self
    have h2 := depAll (ds := ds) fun e he => h e (List.mem_cons_of_mem _ he)
    simp only [PyData.depthAll]
    omega
/-- plain data of at most this depth -/
def Flat (n : Nat) (d : PyData) : Prop := d.canLay0 = true ∧ d.depth ≤ n
theorem flat_list {n : Nat} {ds : List PyData} (h : ∀ d ∈ ds, Flat n d) : Flat (n + 1) (.list ds) :=
  ⟨by rw [PyData.canLay0]; exact layAll fun d hd => (h d hd).1, by have := depAll (n := n) fun d hd => (h d hd).2; simp only [PyData.depth]; omega⟩
theorem flat_tup {n : Nat} {ds : List PyData} (h : ∀ d ∈ ds, Flat n d) : Flat (n + 1) (.tuple ds) :=
  ⟨by rw [PyData.canLay0]; exact layAll fun d hd => (h d hd).1, by have := depAll (n := n) fun d hd => (h d hd).2; simp only [PyData.depth]; omega⟩
theorem flat_int (n : Nat) (i : Int) : Flat n (.int i) := ⟨rfl, by simp [PyData.depth]⟩
theorem flat_str (n : Nat) (x : Str) (h : (PyData.str x).canLay0 = true := by decide +kernel) : Flat n (.str x) := ⟨h, by simp [PyData.depth]⟩
theorem flat_bl (n : Nat) (b : Bool) : Flat n (.bool b) := ⟨rfl, by simp [PyData.depth]⟩
theorem flat_non (n : Nat) : Flat n .none := ⟨rfl, by simp [PyData.depth]⟩
theorem Flat.mono {n m : Nat} {d : PyData} (h : Flat n d) (hm : n ≤ m) : Flat m d := ⟨h.1, Nat.le_trans h.2 hm⟩
theorem Flat.sh {n : Nat} {d : PyData} (h : Flat n d) (hn : n ≤ 64) : SeqAt.shaped d = true := by
  show (d.canLay0 && decide (d.depth ≤ 64)) = true
  rw [Bool.and_eq_true]
  exact ⟨h.1, decide_eq_true (Nat.le_trans h.2 hn)⟩
theorem tyx_t {K : PySem.W.Frag} {H : Hp} {a : Addr} {xs : List V} (h : SqT K H a xs) : TyX K H (.ref a) (.type "tuple") := by
  rcases h with (h | ⟨o, h⟩) | ⟨o, its, n, h, hc, _⟩
  · exact .base (.tup h)
  · exact .fTuple h
  · exact .kTuple h hc
theorem tyx_l {K : PySem.W.Frag} {H : Hp} {a : Addr} {xs : List V} (h : SqL K H a xs) : TyX K H (.ref a) (.type "list") := by
  rcases h with (h | ⟨o, h⟩) | ⟨o, its, n, h, hc, _⟩
  · exact .base (.lst h)
  · exact .base (.frz h)
  · exact .kList h hc
theorem same_both {G H : Hp} {t : Addr} {x : HO} (e : Same G H) : Same (upd G t x) (upd H t x) := fun b o h => by
  by_cases hb : b = t
  · subst hb; rw [upd_same] at h ⊢; exact h
  · rw [upd_ne hb] at h ⊢; exact e b o h
theorem set_self {α : Type} : ∀ {l : List α} {i : Nat} {x : α}, l[i]? = some x → l.set i x = l
  | [], i, x, h => by simp at h
  | a :: l, 0, x, h => by
    have e : a = x := Option.some.inj h
    subst e
    rfl
  | a :: l, i + 1, x, h => by
    show a :: l.set i x = a :: l
    rw [set_self (by simpa using h)]
theorem ixn {n j : Nat} {i : Int} (hi : i = (j : Int)) (hj : j < n) : ixN n i = some j := by
  unfold ixN
  rw [if_pos (by omega), if_pos (by omega)]
  congr 1
  omega
/-! shifts and masks in place -/
section
variable {X : Cx}
theorem ip_shr : PIp X .RShift (fun x y H Q => ∃ (i : Int) (k : Nat), x = .int i ∧ y = .int (k : Int) ∧ Q (.int (i / 2 ^ k)) H) := by
  intro pins s σ H x y v u Q I r1 r2 h
  obtain ⟨i, k, e1, e2, q⟩ := h
  subst e1; subst e2
  obtain ⟨t, rfl⟩ := r1
  obtain ⟨t', rfl⟩ := r2
  refine irshift_int (Int.natCast_nonneg k) ⟨.int _, H, I.tok _, ⟨_, rfl⟩, ?_⟩
  rw [Int.toNat_natCast, Int.fdiv_eq_ediv_of_nonneg _ (Int.le_of_lt (Int.pow_pos (by decide)))]
  exact q
theorem ip_or : PIp X .BitOr (fun x y H Q => ∃ (r a : Int) (k : Nat), x = .int r ∧ y = .int (a * 2 ^ k) ∧ (0 ≤ a ∧ 0 ≤ r ∧ r < 2 ^ k) ∧ Q (.int (r + a * 2 ^ k)) H) := by
  intro pins s σ H x y v u Q I r1 r2 h
  obtain ⟨r, a, k, e1, e2, ⟨h0, h1, h2⟩, q⟩ := h
  subst e1; subst e2
  obtain ⟨t, rfl⟩ := r1
  obtain ⟨t', rfl⟩ := r2
  refine ior_int ⟨.int _, H, I.tok _, ⟨_, rfl⟩, ?_⟩
  have e : Builtin.bitOr r (a * 2 ^ k) = r + a * 2 ^ k := by
    have hp : (0 : Int) ≤ a * 2 ^ k := Int.mul_nonneg h0 (Int.le_of_lt (Int.pow_pos (by decide)))
    rw [bitOr_nn h1 hp, Nat.or_comm, ← bitOr_nn hp h1, or_low h0 h1 h2, Int.add_comm]
  rw [e]
  exact q
end
theorem bits_small : ∀ n : Nat, n < 128 → Builtin.Int.intBits (n : Int) ≤ 8 := by decide +kernel
/-- isinstance(e, c) of the error that a suite holds, its class known by the reading -/
theorem call_isE1 {X : Cx} {a D : Addr} {oe : Obj} {cls : Value} {d : Option Addr} {pn : List (Addr × Obj)} (C : ExcC X.K D) (hz : Zc cls d oe) (hf : ∃ vs, oe.data = .fields vs) :
    CallR (X.suite a ((a, oe) :: pn)) (.builtin "isinstance") (fun xs H Q => cls = .ref D ∧ d = none ∧ rIsE X.K D a xs H Q) := fun pins s σ H xs us Q I r h => by
  obtain ⟨h1, h2, h⟩ := h
  subst h1
  subst h2
  exact call_isE C hz hf pins s σ H xs us Q I r h
/-! slices -/
theorem sIx_le {n d : Nat} {i : Nat} : HT.sIx n d (some (i : Int)) = min i n := HT.sIx_nat n d i
theorem cut0n (xs : List V) (j : Nat) : cutV xs none (some (j : Int)) = xs.take j := by
  unfold cutV
  rw [sIx_le, HT.sIx_none, List.drop_zero, Nat.sub_zero]
  exact (List.take_eq_take_min).symm
theorem cutnn (xs : List V) (i j : Nat) : cutV xs (some (i : Int)) (some (j : Int)) = (xs.drop i).take (j - i) := by
  unfold cutV
  rw [sIx_le, sIx_le]
  by_cases hi : i ≤ xs.length
  · rw [Nat.min_eq_left hi]
    by_cases hj : j ≤ xs.length
    · rw [Nat.min_eq_left hj]
    · rw [Nat.min_eq_right (by omega), List.take_of_length_le (by rw [List.length_drop]; omega), List.take_of_length_le (by rw [List.length_drop]; omega)]
  · have e : min i xs.length = xs.length := by omega
    rw [e, List.drop_of_length_le (Nat.le_refl _), List.drop_of_length_le (show xs.length ≤ i by omega), List.take_nil, List.take_nil]
theorem cut_ints (ns : List Int) {i j : Nat} {a b : Int} (ha : a = i) (hb : b = j) : cutV (ns.map V.int) (some a) (some b) = ((ns.drop i).take (j - i)).map V.int := by
  rw [ha, hb, cutnn, ← List.map_drop, ← List.map_take]
theorem rep_ints (ns : List Int) (k : Nat) : (List.replicate k (ns.map V.int)).flatten = (List.replicate k ns).flatten.map V.int := by
  rw [List.map_flatten, List.map_replicate]
/-- [e for x in a slice], e changes nothing -/
theorem lc_cut {K : PySem.W.Frag} {wi : TI} {te : TE} {s : Nat} {σ : L2.St} {H : Hp} {Q : VK} (xs : List V) (f : V → V)
    (hwi : ∀ R : It → Hp → Prop, (∀ p, H p = none → R (Itl K p) (upd H p (.lst xs))) → wi σ H R) (hlen : xs.length ≤ 90000)
    (hw : ∀ x, wipe ((wipe σ [s]).set s (some x)) [s] = wipe σ [s])
    (he : ∀ (i : Nat) (x : V) (G : Hp) (Q' : VK), xs[i]? = some x → Same H G → Q' (f x) G → te ((wipe σ [s]).set s (some x)) G Q')
    (k : ∀ D H', H D = none → Same H H' → H' D = some (.lst (xs.map f)) → Q (.ref D) H') : tLc wi (gName s) tYes te [s] σ H Q := by
  refine hwi _ fun p hp D hD => ?_
  have nD : D ≠ p := fun z => by rw [z, upd_same] at hD; cases hD
  have hD0 : H D = none := by rw [upd_ne nD] at hD; exact hD
  refine lc_list (K := K) (a := p) (xs := xs) (fun i H' => Same H H' ∧ H' p = some (.lst xs) ∧ H' D = some (.lst ((xs.take i).map f)))
    ⟨(same_upd hp).trans (same_upd hD), by rw [upd_ne nD.symm, upd_same], by rw [upd_same]; rfl⟩ (fun i H' _ h => sql h.2.1) (fun i x G hx hG => ?_) (fun G hG => ?_)
  · refine ⟨hw x, ?_⟩
    refine he i x G _ hx hG.1 ⟨_, hG.2.2, szl (by rw [List.length_map, List.length_take]; omega), same_put hG.1 hD0, by rw [upd_ne nD.symm]; exact hG.2.1, ?_⟩
    rw [upd_same, take_more hx, List.map_append]
    rfl
  · refine k D G hD0 hG.1 ?_
    rw [List.take_length] at hG
    exact hG.2.2
/-- lists of ints as data -/
theorem dpa_ints {K : PySem.W.Frag} {H : Hp} : ∀ ns : List Int, DpAll K H (ns.map V.int) (ns.map PyData.int)
  | [] => .nil
  | n :: ns => .cons (.int n) (dpa_ints ns)
theorem dp_ints {K : PySem.W.Frag} {H : Hp} {a : Addr} {ns : List Int} (h : SqL K H a (ns.map V.int)) : Dp K H (.ref a) (.list (ns.map PyData.int)) := .lst h (dpa_ints ns)
theorem flat_ints (ns : List Int) : Flat 1 (.list (ns.map PyData.int)) := flat_list (n := 0) fun d hd => by
  obtain ⟨i, _, rfl⟩ := List.mem_map.mp hd
  exact flat_int _ _
theorem flat_tints (ns : List Int) : Flat 1 (.tuple (ns.map PyData.int)) := flat_tup (n := 0) fun d hd => by
  obtain ⟨i, _, rfl⟩ := List.mem_map.mp hd
  exact flat_int _ _
theorem eqvAll_ints : ∀ xs ys : List Int, PyData.eqvAll (xs.map .int) (ys.map .int) = decide (xs = ys)
  | [], [] => rfl
  | [], _ :: _ => rfl
  | _ :: _, [] => rfl
  | x :: xs, y :: ys => by
    show ((x == y) && PyData.eqvAll (xs.map .int) (ys.map .int)) = _
    rw [eqvAll_ints xs ys, Bool.eq_iff_iff]
    simp
theorem eqv_ints (xs ys : List Int) : PyData.eqv (.list (xs.map .int)) (.list (ys.map .int)) = decide (xs = ys) := eqvAll_ints xs ys
theorem eqv_tints (xs ys : List Int) : PyData.eqv (.tuple (xs.map .int)) (.tuple (ys.map .int)) = decide (xs = ys) := eqvAll_ints xs ys
/-- a def with defaults that lets nothing out -/
theorem okD {P : Program} {w : World} {K : PySem.W.Frag} {mg : Str → Option Value} {base : Heap} {x qual : Str} {params : Arguments} {body : List Stmt} {scope : Scope} {dvs : List V} {kws : List (Str × V)} {f : Addr} {fd : FuncData} {N ps : List Str} {k : Nat} {sp : Sp}
    (F : FunD K x qual params body scope dvs kws f fd) (S : FnScope N ps scope) (len : ∀ vs H Q E, sp vs H Q E → vs.length = ps.length)
    (hb : ∀ (cdv : Value) (A : Around) (outer : List Env) (s : Shared) (H : Hp) (vs : List V) (Q : VK) (E : XK), Room k (A.deeper (envOfC qual scope s.heap.objs.size f cdv)) → sp vs H Q E →
      ∃ t, PSs (cxOf CX0 P w K mg base N qual scope f cdv A outer s H E).nox body t ∧ t { nx := fun _ H' => Q .non H', rt := Q } (start N vs) H) : FnOk P w K mg base CX0 (k + 1) f fd ps sp :=
  F.ok S len fun cdv A outer s H vs Q E hr h => by
    obtain ⟨t, h1, q⟩ := hb cdv A outer s H vs Q E hr h
    exact ⟨t, h1.nox, q⟩
/-! what an expression gives, whatever stands besides -/
def EI (te : TE) (σ : L2.St) (H : Hp) (v : V) : Prop := ∀ G, Same H G → ∀ Q : VK, Q v G → te σ G Q
def EA (ta : TA) (σ : L2.St) (H : Hp) (vs : List V) : Prop := ∀ G, Same H G → ∀ Q : List V → Hp → Prop, Q vs G → ta σ G Q
/-- a list, new or old -/
def EL (te : TE) (σ : L2.St) (H : Hp) (xs : List V) : Prop := ∀ G, Same H G → ∀ Q : VK, (∀ p G', Same G G' → G' p = some (.lst xs) → Q (.ref p) G') → te σ G Q
section
variable {K : PySem.W.Frag} {σ : L2.St} {H : Hp} {ta tb te : TE} {x y z v : V} {xs ys : List V}
theorem ei_var {i : Nat} (h : σ[i]? = some (some v)) : EI (tVar i) σ H v := fun _ _ _ q => ⟨v, h, q⟩
theorem ei_c : EI (tC v) σ H v := fun _ _ _ q => q
theorem ei_op {r : R2} (ha : EI ta σ H x) (hb : EI tb σ H y) (hr : ∀ G, Same H G → ∀ Q : VK, Q z G → r x y G Q) : EI (tOp r ta tb) σ H z := fun G s Q q => ha G s _ (hb G s _ (hr G s Q q))
theorem ei_i0 {g : Int → Int → V} {i j : Int} (ha : EI ta σ H (.int i)) (hb : EI tb σ H (.int j)) : EI (tOp (rI0 g) ta tb) σ H (g i j) := ei_op ha hb fun _ _ _ q => ⟨i, j, rfl, rfl, q⟩
theorem ei_ic {C : Int → Int → Prop} {g : Int → Int → V} {i j : Int} (ha : EI ta σ H (.int i)) (hb : EI tb σ H (.int j)) (hc : C i j) : EI (tOp (rI C g) ta tb) σ H (g i j) := ei_op ha hb fun _ _ _ q => ⟨i, j, rfl, rfl, hc, q⟩
theorem ea_nil : EA tNil σ H [] := fun _ _ _ q => q
theorem ea_cons {tr : TA} {vs : List V} (h : EI ta σ H x) (g : EA tr σ H vs) : EA (tCons ta tr) σ H (x :: vs) := fun G s _ q => h G s _ (g G s _ q)
theorem ei_cb {r : List V → Hp → VK → Prop} {tr : TA} {vs : List V} (ha : EA tr σ H vs) (hr : ∀ G, Same H G → ∀ Q : VK, Q z G → r vs G Q) : EI (tCB r tr) σ H z := fun G s Q q => ha G s _ (hr G s Q q)
/-- len of a list, list(..) of a list or a tuple, as they are read -/
def rLen (K : PySem.W.Frag) : List V → Hp → VK → Prop := fun xs H Q => ∃ p ys, xs = [.ref p] ∧ (SqL K H p ys ∨ SqT K H p ys) ∧ Q (.int ys.length) H
def rLst (K : PySem.W.Frag) : List V → Hp → VK → Prop := fun xs H Q => ∃ p ys, xs = [.ref p] ∧ (SqL K H p ys ∨ SqT K H p ys) ∧ ∀ l, H l = none → Q (.ref l) (upd H l (.lst ys))
def rTup (K : PySem.W.Frag) : List V → Hp → VK → Prop := fun xs H Q => ∃ p ys, xs = [.ref p] ∧ ((SqL K H p ys ∧ ∀ l, H l = none → Q (.ref l) (upd H l (.tup ys))) ∨ (SqT K H p ys ∧ Q (.ref p) H))
theorem callK_tuple {X : Cx} (h : X.K = K) : CallR X (.type "tuple") (rTup K) := by subst h; exact call_tuple_of
theorem callK_list {X : Cx} (h : X.K = K) : CallR X (.type "list") (rLst K) := by subst h; exact call_list_of
theorem opK_catA {X : Cx} (h : X.K = K) : OpR X (binaryOp .Add) (rCatA K) := by subst h; exact op_catA
theorem ixK_list {X : Cx} (h : X.K = K) : IxR X (rIxL K) := by subst h; exact ix_list
theorem ixK_tup {X : Cx} (h : X.K = K) : IxR X (rIxT K) := by subst h; exact ix_tup
theorem pe_fldK {X : Cx} {e : Expr} {f : Str} {pos : Pos} {ta : TE} (h : X.K = K) (he : PE X e ta) (hb : attributeBase e f X.env (eval e X.env) = eval e X.env) : PE X (.Attribute e f pos) (tFld K ta f) := by subst h; exact pe_fld he hb
theorem callK_len {X : Cx} (h : X.K = K) : CallR X (.builtin "len") (rLen K) := by subst h; exact call_len_seq
theorem ei_lenL {i : Nat} {p : Addr} (h : σ[i]? = some (some (.ref p))) (e : SqL K H p xs) : EI (tCB (rLen K) (tCons (tVar i) tNil)) σ H (.int (xs.length : Int)) := ei_cb (ea_cons (ei_var h) ea_nil) fun _ s _ q => ⟨p, xs, rfl, .inl (s.seq e), q⟩
theorem ei_lenT {i : Nat} {p : Addr} (h : σ[i]? = some (some (.ref p))) (e : SqT K H p xs) : EI (tCB (rLen K) (tCons (tVar i) tNil)) σ H (.int (xs.length : Int)) := ei_cb (ea_cons (ei_var h) ea_nil) fun _ s _ q => ⟨p, xs, rfl, .inr (sqt_same s e), q⟩
theorem ei_fld {i : Nat} {p C dx : Addr} {fs : List (Str × V)} {f : Str} (h : σ[i]? = some (some (.ref p))) (hp : H p = some (.ins C dx fs)) (c : Cls K C) (n : NoAttr K C f) (l : fs.lookup f = some v) : EI (tFld K (tVar i) f) σ H v := fun _ s _ q => ⟨.ref p, h, p, C, dx, fs, v, rfl, s _ _ hp, c, n, l, q⟩
theorem ei_din {td : TE} {d : Addr} {kvs : List (Key × V)} {k : Key} (hy : EI te σ H (kV k)) (hd : EI td σ H (.ref d)) (e : H d = some (.dK kvs)) : EI (tDIn te td) σ H (.bl (valV kvs k).isSome) := fun G s _ q => hy G s _ (hd G s _ ⟨d, _, rfl, DGet.k (s _ _ e), q⟩)
theorem ei_dnotin {td : TE} {d : Addr} {kvs : List (Key × V)} {k : Key} (hy : EI te σ H (kV k)) (hd : EI td σ H (.ref d)) (e : H d = some (.dK kvs)) : EI (tDNotIn te td) σ H (.bl (!(valV kvs k).isSome)) := fun G s _ q => hy G s _ (hd G s _ ⟨d, _, rfl, DGet.k (s _ _ e), q⟩)
theorem ei_dget {td : TE} {d : Addr} {kvs : List (Key × V)} {k : Key} (hy : EI te σ H (kV k)) (hd : EI td σ H (.ref d)) (e : H d = some (.dK kvs)) (hv : valV kvs k = some v) : EI (tDGet td te) σ H v := fun G s _ q => hd G s _ (hy G s _ ⟨d, v, rfl, by rw [← hv]; exact DGet.k (s _ _ e), q⟩)
theorem ei_ixL {p : Addr} {j : Int} (ha : EI ta σ H (.ref p)) (hi : EI tb σ H (.int j)) (e : SqL K H p xs) (h : atI xs j = some v) : EI (tOp (rIxL K) ta tb) σ H v := ei_op ha hi fun _ s _ q => ⟨p, xs, j, v, rfl, rfl, s.seq e, h, q⟩
theorem ei_ixT {p : Addr} {j : Int} (ha : EI ta σ H (.ref p)) (hi : EI tb σ H (.int j)) (e : SqT K H p xs) (h : atI xs j = some v) : EI (tOp (rIxT K) ta tb) σ H v := ei_op ha hi fun _ s _ q => ⟨p, xs, j, v, rfl, rfl, sqt_same s e, h, q⟩
theorem ei_eq (ha : EI ta σ H x) (hb : EI tb σ H y) (h : scal x y = true) : EI (tOp rEq ta tb) σ H (.bl (decide (x = y))) := ei_op ha hb fun _ _ _ q => ⟨h, q⟩
theorem ei_ne (ha : EI ta σ H x) (hb : EI tb σ H y) (h : scal x y = true) : EI (tOp rNe ta tb) σ H (.bl (!decide (x = y))) := ei_op ha hb fun _ _ _ q => ⟨h, q⟩
/-- a test by its value -/
theorem tt_use {b : Bool} {Q : Bool → Hp → Prop} (h : EI te σ H (.bl b)) (k : Q b H) : tTest te σ H Q := h H (Same.refl _) _ ⟨b, rfl, k⟩
theorem tb_use {b : Bool} {Q : Bool → Hp → Prop} (h : EI te σ H (.bl b)) (k : Q b H) : tB te σ H Q := h H (Same.refl _) _ ⟨b, rfl, k⟩
theorem el_var {i : Nat} {p : Addr} (h : σ[i]? = some (some (.ref p))) (e : H p = some (.lst xs)) : EL (tVar i) σ H xs := fun G s _ q => ⟨.ref p, h, q p G (Same.refl _) (s _ _ e)⟩
/-- a new list -/
def EN (te : TE) (σ : L2.St) (H : Hp) (xs : List V) : Prop := ∀ G, Same H G → ∀ Q : VK, (∀ p G', G p = none → Same G G' → G' p = some (.lst xs) → Q (.ref p) G') → te σ G Q
theorem EN.el (h : EN te σ H xs) : EL te σ H xs := fun G s Q q => h G s Q fun p G' _ => q p G'
theorem en_lst {tr : TA} {vs : List V} (ha : EA tr σ H vs) (hl : vs.length ≤ 90000) : EN (tLst tr) σ H vs := fun G s _ q => ha G s _ ⟨sz (by omega), fun p hp => q p _ hp (same_upd hp) upd_same⟩
theorem en_cat (ha : EL ta σ H xs) (hb : EL tb σ H ys) (hl : xs.length + ys.length ≤ 90000) : EN (tOp rCat ta tb) σ H (xs ++ ys) := fun G s _ q =>
  ha G s _ fun p G1 s1 e1 => hb G1 (s.trans s1) _ fun p2 G2 s2 e2 => ⟨p, p2, xs, ys, rfl, rfl, s2 _ _ e1, e2, sz (by omega), fun p3 h3 => q p3 _ ((s1.trans s2).free h3) ((s1.trans s2).trans (same_upd h3)) upd_same⟩
theorem en_rep {k : Int} (ha : EL ta σ H xs) (hb : EI tb σ H (.int k)) (h1 : -1000000 ≤ k) (h2 : k ≤ 1000000) (hl : xs.length * k.toNat ≤ 90000) : EN (tOp rRep ta tb) σ H (List.replicate k.toNat xs).flatten := fun G s _ q =>
  ha G s _ fun p G1 s1 e1 => hb G1 (s.trans s1) _ ⟨p, k, xs, rfl, rfl, e1, by omega, by omega, sz (by omega), fun p3 h3 => q p3 _ (s1.free h3) (s1.trans (same_upd h3)) upd_same⟩
theorem el_lst {tr : TA} {vs : List V} (ha : EA tr σ H vs) (hl : vs.length ≤ 90000) : EL (tLst tr) σ H vs := (en_lst ha hl).el
theorem el_cat (ha : EL ta σ H xs) (hb : EL tb σ H ys) (hl : xs.length + ys.length ≤ 90000) : EL (tOp rCat ta tb) σ H (xs ++ ys) := (en_cat ha hb hl).el
theorem el_rep {k : Int} (ha : EL ta σ H xs) (hb : EI tb σ H (.int k)) (h1 : -1000000 ≤ k) (h2 : k ≤ 1000000) (hl : xs.length * k.toNat ≤ 90000) : EL (tOp rRep ta tb) σ H (List.replicate k.toNat xs).flatten := (en_rep ha hb h1 h2 hl).el
theorem el_cb {r : List V → Hp → VK → Prop} {tr : TA} {vs : List V} (ha : EA tr σ H vs) (hr : ∀ G, Same H G → ∀ Q : VK, (∀ p G', Same G G' → G' p = some (.lst xs) → Q (.ref p) G') → r vs G Q) : EL (tCB r tr) σ H xs := fun G s Q q => ha G s _ (hr G s Q q)
theorem el_call {sp : Sp} {dvs : List V} {E : XK} {tr : TA} {vs : List V} (ha : EA tr σ H vs) (hr : ∀ G, Same H G → ∀ Q : VK, (∀ p G', Same G G' → G' p = some (.lst xs) → Q (.ref p) G') → sp (vs ++ dvs) G Q E) : EL (tCall sp dvs E tr) σ H xs := fun G s Q q => ha G s _ (hr G s Q q)
theorem el_listL {i : Nat} {p : Addr} (h : σ[i]? = some (some (.ref p))) (e : SqL K H p xs) : EL (tCB (rLst K) (tCons (tVar i) tNil)) σ H xs := el_cb (ea_cons (ei_var h) ea_nil) fun _ s _ q => ⟨p, xs, rfl, .inl (s.seq e), fun l hl => q l _ (same_upd hl) upd_same⟩
theorem el_listT {i : Nat} {p : Addr} (h : σ[i]? = some (some (.ref p))) (e : SqT K H p xs) : EL (tCB (rLst K) (tCons (tVar i) tNil)) σ H xs := el_cb (ea_cons (ei_var h) ea_nil) fun _ s _ q => ⟨p, xs, rfl, .inr (sqt_same s e), fun l hl => q l _ (same_upd hl) upd_same⟩
/-- x = an expression that gives a list -/
theorem EL.use {Q : VK} (h : EL te σ H xs) (k : ∀ p H', Same H H' → H' p = some (.lst xs) → Q (.ref p) H') : te σ H Q := h H (Same.refl _) Q k
theorem EN.use {Q : VK} (h : EN te σ H xs) (k : ∀ p H', H p = none → Same H H' → H' p = some (.lst xs) → Q (.ref p) H') : te σ H Q := h H (Same.refl _) Q k
theorem EI.use {Q : VK} (h : EI te σ H v) (k : Q v H) : te σ H Q := h H (Same.refl _) Q k
end
/-- defaults: what is bound where keywords give the rest -/
theorem kb_one {K : PySem.W.Frag} {x qual : Str} {params : Arguments} {body : List Stmt} {scope : Scope} {dvs : List V} {f : Addr} {fd : FuncData} {ps : List Str} (F : FunD K x qual params body scope dvs [] f fd) (n : Nat) (ks : List Str) (hd : dvs ≠ [])
    (h : ∀ (T : Addr) (kV doc pm : Value) (an : Option Addr) (cdv ct : Value) (us ws its : List Value), us.length = n → ws.length = ks.length → its.length = dvs.length →
      ∃ k, bindArgs (PySem.W.fnOf x qual params body scope (.ref T) kV doc pm an cdv ct) ⟨us, ks.zip ws⟩ = seqItems? (.ref T) >>= k ∧ k (some its.toArray) = pure (ps.zip (us ++ ws))) :
    KBn K fd ps n ks (fun us ws => us ++ ws) (fun vs zs => vs ++ zs) := by
  obtain ⟨oc, od, dV, kV, doc, pm, an, cdv, ct, osl, rfl, lk, hcd, hD, hK⟩ := F.ex
  rcases hD with ⟨e, _⟩ | ⟨_, T, o, its, m, rfl, lT, oT, rT⟩
  · exact absurd e hd
  · refine ⟨fun s us ws X h1 h2 => BindsTo.of_looks fun M => ?_, fun r1 r2 => r1.append r2⟩
    obtain ⟨k, e1, e2⟩ := h T kV doc pm an cdv ct us ws its h1 h2 rT.length.symm
    rw [e1]
    exact looks_items X lT oT (.of_pure e2)
theorem andV_use {ta tb : TE} {σ : L2.St} {H : Hp} {Q : VK} {x y : Bool} (h1 : EI ta σ H (.bl x)) (h2 : x = true → ∀ Q' : VK, (∀ H', Same H H' → Q' (.bl y) H') → tb σ H Q') (k : ∀ H', Same H H' → Q (.bl (x && y)) H') : tAndV ta tb σ H Q := by
  refine h1 H (Same.refl _) _ ⟨x, rfl, ?_⟩
  cases x with
  | true => exact (if_pos rfl).mpr (h2 rfl _ k)
  | false => exact (if_neg Bool.false_ne_true).mpr (k H (Same.refl _))
/-- what is locked and let go stands as it stood -/
theorem unlock {H H' : Hp} {d : Addr} {od : Obj} {u : HO} (e : H d = some u) (s : Same (upd H d (.frz od u)) H') : Same H (upd H' d u) := fun b o h => by
  by_cases hb : b = d
  · subst hb
    rw [upd_same, ← e]
    exact h
  · rw [upd_ne hb]
    exact s b o (by rw [upd_ne hb]; exact h)
theorem take_filter {α : Type} {l : List α} {i : Nat} {x : α} (f : α → Bool) (h : l[i]? = some x) : (l.take (i + 1)).filter f = (l.take i).filter f ++ if f x then [x] else [] := by
  rw [take_more h, List.filter_append]
  cases e : f x <;> simp [e]
/-- [e for k in d if t] over the keys of a dict, t and e change nothing -/
theorem lc_keys {td te : TE} {tt : TT} {s : Nat} {σ : L2.St} {H : Hp} {Q : VK} (d : Addr) (kvs : List (Key × V)) (f : Key → Bool) (g : Key → V) (e : H d = some (.dK kvs)) (hlen : kvs.length ≤ 90000)
    (htd : ∀ od, EI td σ (upd H d (.frz od (.dK kvs))) (.ref d))
    (hw : ∀ x, wipe ((wipe σ [s]).set s (some x)) [s] = wipe σ [s])
    (ht : ∀ (od : Obj) (i : Nat) (k : Key) (v : V) (G : Hp) (Q' : Bool → Hp → Prop), kvs[i]? = some (k, v) → Same (upd H d (.frz od (.dK kvs))) G → Q' (f k) G → tt ((wipe σ [s]).set s (some (kV k))) G Q')
    (he : ∀ (od : Obj) (i : Nat) (k : Key) (v : V) (G : Hp) (Q' : VK), kvs[i]? = some (k, v) → Same (upd H d (.frz od (.dK kvs))) G → Q' (g k) G → te ((wipe σ [s]).set s (some (kV k))) G Q')
    (k : ∀ D H', H D = none → Same H H' → H' D = some (.lst ((kvs.filter fun kv => f kv.1).map fun kv => g kv.1)) → Q (.ref D) H') : tLockE (tLc (iKeys td) (gName s) tt te [s]) σ H Q := by
  refine ⟨d, _, e, trivial, fun od => htd od _ (Same.refl _) _ ⟨d, od, rfl, .inl ⟨kvs, upd_same, fun D hD => ?_⟩⟩⟩
  have nD : D ≠ d := fun z => by rw [z, upd_same] at hD; cases hD
  have hD0 : H D = none := by rw [upd_ne nD] at hD; exact hD
  refine lc_it walk_keys (fun i G => Same (upd H d (.frz od (.dK kvs))) G ∧ G D = some (.lst (((kvs.take i).filter fun kv => f kv.1).map fun kv => g kv.1)))
    ⟨same_upd hD, upd_same⟩ (fun i G _ h => h.1 _ _ upd_same) (fun i x G G' hi hG hy => ?_) (fun G hG => ?_)
  · obtain ⟨rfl, key, v, hkv, rfl⟩ := hy
    have hfl : ((kvs.take i).filter fun kv => f kv.1).length ≤ 90000 := Nat.le_trans (List.length_filter_le _ _) (by rw [List.length_take]; omega)
    refine ⟨hw _, ht od i key v _ _ hkv hG.1 ?_⟩
    have hts := take_filter (fun kv : Key × V => f kv.1) hkv
    cases hf : f key with
    | true =>
      refine (if_pos rfl).mpr (he od i key v _ _ hkv hG.1 ⟨_, hG.2, szl (by rw [List.length_map]; omega), same_put hG.1 hD, ?_⟩)
      rw [upd_same, hts, List.map_append]
      simp only [hf, if_true]
      rfl
    | false =>
      refine (if_neg Bool.false_ne_true).mpr ⟨hG.1, ?_⟩
      rw [hts]
      simp only [hf, Bool.false_eq_true, if_false, List.append_nil]
      exact hG.2
  · rw [List.take_length] at hG
    refine ⟨hG.1 _ _ upd_same, k D _ hD0 (unlock e hG.1) ?_⟩
    rw [upd_ne nD]
    exact hG.2
theorem put_fresh {kvs : List (Key × V)} {k : Key} {v : V} (h : ∀ kv ∈ kvs, kv.1 ≠ k) : putK kvs k v = kvs ++ [(k, v)] := by
  unfold putK
  rw [if_neg]
  intro z
  obtain ⟨kv, hm, hk⟩ := List.any_eq_true.mp z
  exact h kv hm (of_decide_eq_true hk)
theorem nd_ne {α β : Type} {l : List (α × β)} {i : Nat} {x : α × β} (nd : (l.map (·.1)).Nodup) (h : l[i]? = some x) : ∀ y ∈ l.take i, y.1 ≠ x.1 := fun y hy z => by
  obtain ⟨j, hj, rfl⟩ := List.getElem_of_mem hy
  rw [List.length_take] at hj
  rw [List.getElem_take] at z
  obtain ⟨hi, rfl⟩ := List.getElem?_eq_some_iff.mp h
  have e1 : (l.map (·.1))[j]? = some l[i].1 := by rw [List.getElem?_map, List.getElem?_eq_getElem (by omega), ← z]; rfl
  have e2 : (l.map (·.1))[i]? = some l[i].1 := by rw [List.getElem?_map, List.getElem?_eq_getElem hi]; rfl
  have := nd_ix nd e1 e2
  omega
/-- {k: e for k in d if t} over the keys of a dict -/
theorem dc_keys {td tv : TE} {tt : TT} {s : Nat} {σ : L2.St} {H : Hp} {Q : VK} (d : Addr) (kvs : List (Key × V)) (f : Key → Bool) (g : Key × V → V) (e : H d = some (.dK kvs)) (hlen : kvs.length ≤ 90000) (nd : (kvs.map (·.1)).Nodup)
    (htd : ∀ od, EI td σ (upd H d (.frz od (.dK kvs))) (.ref d))
    (hw : ∀ x, wipe ((wipe σ [s]).set s (some x)) [s] = wipe σ [s])
    (ht : ∀ (od : Obj) (i : Nat) (k : Key) (v : V) (G : Hp) (Q' : Bool → Hp → Prop), kvs[i]? = some (k, v) → Same (upd H d (.frz od (.dK kvs))) G → Q' (f k) G → tt ((wipe σ [s]).set s (some (kV k))) G Q')
    (he : ∀ (od : Obj) (i : Nat) (k : Key) (v : V) (G : Hp) (Q' : VK), kvs[i]? = some (k, v) → f k = true → Same (upd H d (.frz od (.dK kvs))) G → Q' (g (k, v)) G → tv ((wipe σ [s]).set s (some (kV k))) G Q')
    (hn : ∀ i, (wipe σ [s]).length = i → s < i)
    (k : ∀ D H', H D = none → Same H H' → H' D = some (.dK ((kvs.filter fun kv => f kv.1).map fun kv => (kv.1, g kv))) → Q (.ref D) H') : tLockE (tDc (iKeys td) (gName s) tt (tVar s) tv [s]) σ H Q := by
  have hs : s < (wipe σ [s]).length := hn _ rfl
  refine ⟨d, _, e, trivial, fun od => htd od _ (Same.refl _) _ ⟨d, od, rfl, .inl ⟨kvs, upd_same, fun D hD => ?_⟩⟩⟩
  have nD : D ≠ d := fun z => by rw [z, upd_same] at hD; cases hD
  have hD0 : H D = none := by rw [upd_ne nD] at hD; exact hD
  let Pv : Nat → Hp → Prop := fun i G => Same (upd H d (.frz od (.dK kvs))) G ∧ G D = some (.dK (((kvs.take i).filter fun kv => f kv.1).map fun kv => (kv.1, g kv)))
  have step : ∀ i x G G', i < kvs.length → Pv i G → (G' = G ∧ ∃ k v, kvs[i]? = some (k, v) ∧ x = kV k) → gName s x (wipe σ [s]) G' fun σ2 H2 => wipe σ2 [s] = wipe σ [s] ∧ tt σ2 H2 fun b H3 =>
      if b = true then tVar s σ2 H3 fun y H4 => tv σ2 H4 fun z H5 => ∃ kvs' k', y = kV k' ∧ H5 D = some (.dK kvs') ∧ kvs'.length < sizeLine ∧ Pv (i + 1) (upd H5 D (.dK (putK kvs' k' z))) else Pv (i + 1) H3 := fun i x G G' hi hG hy => by
    obtain ⟨rfl, key, v, hkv, rfl⟩ := hy
    have hfl : ((kvs.take i).filter fun kv => f kv.1).length ≤ 90000 := Nat.le_trans (List.length_filter_le _ _) (by rw [List.length_take]; omega)
    refine ⟨hw _, ht od i key v _ _ hkv hG.1 ?_⟩
    have hts := take_filter (fun kv : Key × V => f kv.1) hkv
    cases hf : f key with
    | true =>
      refine (if_pos rfl).mpr ⟨kV key, by rw [List.getElem?_set_self hs], he od i key v _ _ hkv hf hG.1 ⟨_, key, rfl, hG.2, szl (by rw [List.length_map]; omega), same_put hG.1 hD, ?_⟩⟩
      rw [upd_same, hts, List.map_append, put_fresh]
      · simp only [hf, if_true]
        rfl
      · intro kv hm
        obtain ⟨y, hy, rfl⟩ := List.mem_map.mp hm
        exact nd_ne nd hkv y (List.mem_filter.mp hy).1
    | false =>
      refine (if_neg Bool.false_ne_true).mpr ⟨hG.1, ?_⟩
      rw [hts]
      simp only [hf, Bool.false_eq_true, if_false, List.append_nil]
      exact hG.2
  refine ⟨fun i m G => m = kvs.length - i ∧ i ≤ kvs.length ∧ Pv i G, ⟨kvs.length, by simp, Nat.zero_le _, same_upd hD, upd_same⟩, ?_⟩
  rintro i m G ⟨rfl, hi, hP⟩
  by_cases hlt : i < kvs.length
  · exact .inr ⟨⟨hP.1 _ _ upd_same, hlt⟩, Pv (i + 1), fun G' p' => ⟨kvs.length - (i + 1), by omega, rfl, hlt, p'⟩, fun x G' y => step i x G G' hlt hP y⟩
  · have ei : i = kvs.length := by omega
    subst ei
    obtain ⟨h1, h2⟩ := hP
    rw [List.take_length] at h2
    refine .inl ⟨⟨h1 _ _ upd_same, Nat.le_refl _⟩, h1 _ _ upd_same, k D _ hD0 (unlock e h1) ?_⟩
    rw [upd_ne nD]
    exact h2
/-! the same within a comprehension -/
section
variable {K : PySem.W.Frag} {X : Cx} {pos : Pos}
theorem pgK_tup {es : List Expr} {k : Nat} {t : TGs} {n : Nat} (hK : X.K = K) (hc : X.calm = true) (h : PGs X es t)
    (hn : (assignEach es X.env).length = n := by rfl) (hst : (assignEach es X.env).findIdx? (·.1) = none := by rfl) : PG X (.Tuple es k pos) (gTup K n t) := by subst hK; exact pg_tup hc h hn hst
theorem opK_in (h : X.K = K) : OpR X (compareOp .In) (rIn K false) := by subst h; exact op_in_seq
theorem opK_notIn (h : X.K = K) : OpR X (compareOp .NotIn) (rIn K true) := by subst h; exact op_notIn_seq
theorem opK_eqD (h : X.K = K) (hu : X.A.units + 64 < cLine) : OpR X (compareOp .Eq) (rEqD K) := by subst h; exact op_eqD hu
theorem opK_neD (h : X.K = K) (hu : X.A.units + 64 < cLine) : OpR X (compareOp .NotEq) (rNeD K) := by subst h; exact op_neD hu
theorem callK_isi (h : X.K = K) : CallR X (.builtin "isinstance") (rIsi K) := by subst h; exact call_isi
theorem slK_tup (h : X.K = K) : SlR X (rSlT K) := by subst h; exact sl_tup
end
end My
local macro_rules | `(tactic| walk_at "go") => `(tactic| try dsimp only [L2.gName, L2.tSeq, L2.tAsg, L2.tNext, L2.tDrop])
namespace My
open PySem PySem.Spec PyProof.Rows L2
def topS (i : Nat) : Stmt := PySem.Challenge.pw_majordomo_k77_what_a_worker_should_do.main.body.getD i (.Pass ⟨0, 0, 0, 0⟩)
abbrev s__wall : Stmt := (topS 0)
theorem sc__wall : FnScope ["k"] ["k"] (defScope s__wall) := ⟨rfl, rfl, rfl, by decide +kernel, rfl, by decide +kernel, by decide +kernel⟩
abbrev s_is_placed : Stmt := (topS 8)
theorem sc_is_placed : FnScope ["value"] ["value"] (defScope s_is_placed) := ⟨rfl, rfl, rfl, by decide +kernel, rfl, by decide +kernel, by decide +kernel⟩
abbrev s_Runs___init__ : Stmt := (inClass (topS 10) 0)
theorem sc_Runs___init__ : FnScope ["self"] ["self"] (defScope s_Runs___init__) := ⟨rfl, rfl, rfl, by decide +kernel, rfl, by decide +kernel, by decide +kernel⟩
abbrev s_Runs_begin : Stmt := (inClass (topS 10) 1)
theorem sc_Runs_begin : FnScope ["self", "slot", "born"] ["self", "slot", "born"] (defScope s_Runs_begin) := ⟨rfl, rfl, rfl, by decide +kernel, rfl, by decide +kernel, by decide +kernel⟩
abbrev s_Runs_end : Stmt := (inClass (topS 10) 2)
theorem sc_Runs_end : FnScope ["self", "slot"] ["self", "slot"] (defScope s_Runs_end) := ⟨rfl, rfl, rfl, by decide +kernel, rfl, by decide +kernel, by decide +kernel⟩
abbrev s_Runs_end_all : Stmt := (inClass (topS 10) 3)
theorem sc_Runs_end_all : FnScope ["self"] ["self"] (defScope s_Runs_end_all) := ⟨rfl, rfl, rfl, by decide +kernel, rfl, by decide +kernel, by decide +kernel⟩
abbrev s_Runs_born_of : Stmt := (inClass (topS 10) 4)
theorem sc_Runs_born_of : FnScope ["self", "slot"] ["self", "slot"] (defScope s_Runs_born_of) := ⟨rfl, rfl, rfl, by decide +kernel, rfl, by decide +kernel, by decide +kernel⟩
abbrev s_Runs_slots : Stmt := (inClass (topS 10) 5)
theorem sc_Runs_slots : FnScope ["self"] ["self"] (defScope s_Runs_slots) := ⟨rfl, rfl, rfl, by decide +kernel, rfl, by decide +kernel, by decide +kernel⟩
abbrev s_tasks_of : Stmt := (topS 11)
theorem sc_tasks_of : FnScope ["entries", "node", "life", "tasks", "entry", "task"] ["entries", "node", "life"] (defScope s_tasks_of) := ⟨rfl, rfl, rfl, by decide +kernel, rfl, by decide +kernel, by decide +kernel⟩
abbrev s_to_run : Stmt := (topS 12)
theorem sc_to_run : FnScope ["tasks", "runs", "confirmed", "running", "found", "name", "born", "_", "value"] ["tasks", "runs", "confirmed"] (defScope s_to_run) := ⟨rfl, rfl, rfl, by decide +kernel, rfl, by decide +kernel, by decide +kernel⟩
abbrev s_next_start : Stmt := (topS 13)
theorem sc_next_start : FnScope ["tasks", "held", "task", "name", "_", "value"] ["tasks", "held"] (defScope s_next_start) := ⟨rfl, rfl, rfl, by decide +kernel, rfl, by decide +kernel, by decide +kernel⟩
abbrev s_next_end : Stmt := (topS 14)
theorem sc_next_end : FnScope ["tasks", "held", "task", "name", "_", "value"] ["tasks", "held"] (defScope s_next_end) := ⟨rfl, rfl, rfl, by decide +kernel, rfl, by decide +kernel, by decide +kernel⟩
abbrev s__law_number : Stmt := (topS 16)
theorem sc__law_number : FnScope ["script", "k", "cell"] ["script", "k"] (defScope s__law_number) := ⟨rfl, rfl, rfl, by decide +kernel, rfl, by decide +kernel, by decide +kernel⟩
abbrev s__law_digits : Stmt := (topS 17)
theorem sc__law_digits : FnScope ["script", "k", "sizes", "number", "digits", "size"] ["script", "k", "sizes"] (defScope s__law_digits) := ⟨rfl, rfl, rfl, by decide +kernel, rfl, by decide +kernel, by decide +kernel⟩
abbrev s__law_entry : Stmt := (topS 18)
theorem sc__law_entry : FnScope ["script", "k", "states", "nodes", "state", "stop", "node", "life", "kind", "size", "name", "value"] ["script", "k"] (defScope s__law_entry) := ⟨rfl, rfl, rfl, by decide +kernel, rfl, by decide +kernel, by decide +kernel⟩
abbrev s__law_first : Stmt := (topS 19)
theorem sc__law_first : FnScope ["tasks", "states", "stop", "held", "task"] ["tasks", "states", "stop", "held"] (defScope s__law_first) := ⟨rfl, rfl, rfl, by decide +kernel, rfl, by decide +kernel, by decide +kernel⟩
abbrev s__law_one : Stmt := (topS 20)
theorem sc__law_one : FnScope ["entries", "node", "life", "runs", "confirmed", "held", "due", "kind", "name", "born", "rev", "value", "rows"] ["entries", "node", "life", "runs", "confirmed", "held"] (defScope s__law_one) := ⟨rfl, rfl, rfl, by decide +kernel, rfl, by decide +kernel, by decide +kernel⟩
abbrev s_law : Stmt := (topS 21)
theorem sc_law : FnScope ["script", "size", "entries", "kept", "runs", "confirmed", "held", "k", "use", "slots", "node", "life", "entry"] ["script"] (defScope s_law) := ⟨rfl, rfl, rfl, by decide +kernel, rfl, by decide +kernel, by decide +kernel⟩

structure TX (K : PySem.W.Frag) (mg : Str → Option Value) where
  a_Runs : Addr
  a__wall : Addr
  d__wall : FuncData
  F__wall : Fun K "_wall" "_wall" s__wall a__wall d__wall
  b__wall : Binds K d__wall ["k"] []
  g__wall : mg "_wall" = some (.ref a__wall)
  a_is_placed : Addr
  d_is_placed : FuncData
  F_is_placed : Fun K "is_placed" "is_placed" s_is_placed a_is_placed d_is_placed
  b_is_placed : Binds K d_is_placed ["value"] []
  g_is_placed : mg "is_placed" = some (.ref a_is_placed)
  a_Runs___init__ : Addr
  d_Runs___init__ : FuncData
  F_Runs___init__ : Fun K "__init__" "Runs.__init__" s_Runs___init__ a_Runs___init__ d_Runs___init__
  b_Runs___init__ : Binds K d_Runs___init__ ["self"] []
  a_Runs_begin : Addr
  d_Runs_begin : FuncData
  F_Runs_begin : Fun K "begin" "Runs.begin" s_Runs_begin a_Runs_begin d_Runs_begin
  b_Runs_begin : Binds K d_Runs_begin ["self", "slot", "born"] []
  m_Runs_begin : Meth K a_Runs "begin" a_Runs_begin
  a_Runs_end : Addr
  d_Runs_end : FuncData
  F_Runs_end : Fun K "end" "Runs.end" s_Runs_end a_Runs_end d_Runs_end
  b_Runs_end : Binds K d_Runs_end ["self", "slot"] []
  m_Runs_end : Meth K a_Runs "end" a_Runs_end
  a_Runs_end_all : Addr
  d_Runs_end_all : FuncData
  F_Runs_end_all : Fun K "end_all" "Runs.end_all" s_Runs_end_all a_Runs_end_all d_Runs_end_all
  b_Runs_end_all : Binds K d_Runs_end_all ["self"] []
  m_Runs_end_all : Meth K a_Runs "end_all" a_Runs_end_all
  a_Runs_born_of : Addr
  d_Runs_born_of : FuncData
  F_Runs_born_of : Fun K "born_of" "Runs.born_of" s_Runs_born_of a_Runs_born_of d_Runs_born_of
  b_Runs_born_of : Binds K d_Runs_born_of ["self", "slot"] []
  m_Runs_born_of : Meth K a_Runs "born_of" a_Runs_born_of
  a_Runs_slots : Addr
  d_Runs_slots : FuncData
  F_Runs_slots : Fun K "slots" "Runs.slots" s_Runs_slots a_Runs_slots d_Runs_slots
  b_Runs_slots : Binds K d_Runs_slots ["self"] []
  m_Runs_slots : Meth K a_Runs "slots" a_Runs_slots
  a_tasks_of : Addr
  d_tasks_of : FuncData
  F_tasks_of : Fun K "tasks_of" "tasks_of" s_tasks_of a_tasks_of d_tasks_of
  b_tasks_of : Binds K d_tasks_of ["entries", "node", "life"] []
  g_tasks_of : mg "tasks_of" = some (.ref a_tasks_of)
  a_to_run : Addr
  d_to_run : FuncData
  F_to_run : Fun K "to_run" "to_run" s_to_run a_to_run d_to_run
  b_to_run : Binds K d_to_run ["tasks", "runs", "confirmed"] []
  g_to_run : mg "to_run" = some (.ref a_to_run)
  a_next_start : Addr
  d_next_start : FuncData
  F_next_start : Fun K "next_start" "next_start" s_next_start a_next_start d_next_start
  b_next_start : Binds K d_next_start ["tasks", "held"] []
  g_next_start : mg "next_start" = some (.ref a_next_start)
  a_next_end : Addr
  d_next_end : FuncData
  F_next_end : Fun K "next_end" "next_end" s_next_end a_next_end d_next_end
  b_next_end : Binds K d_next_end ["tasks", "held"] []
  g_next_end : mg "next_end" = some (.ref a_next_end)
  a__law_number : Addr
  d__law_number : FuncData
  F__law_number : Fun K "_law_number" "_law_number" s__law_number a__law_number d__law_number
  b__law_number : Binds K d__law_number ["script", "k"] []
  g__law_number : mg "_law_number" = some (.ref a__law_number)
  a__law_digits : Addr
  d__law_digits : FuncData
  F__law_digits : Fun K "_law_digits" "_law_digits" s__law_digits a__law_digits d__law_digits
  b__law_digits : Binds K d__law_digits ["script", "k", "sizes"] []
  g__law_digits : mg "_law_digits" = some (.ref a__law_digits)
  a__law_entry : Addr
  d__law_entry : FuncData
  F__law_entry : Fun K "_law_entry" "_law_entry" s__law_entry a__law_entry d__law_entry
  b__law_entry : Binds K d__law_entry ["script", "k"] []
  g__law_entry : mg "_law_entry" = some (.ref a__law_entry)
  a__law_first : Addr
  d__law_first : FuncData
  F__law_first : Fun K "_law_first" "_law_first" s__law_first a__law_first d__law_first
  b__law_first : Binds K d__law_first ["tasks", "states", "stop", "held"] []
  g__law_first : mg "_law_first" = some (.ref a__law_first)
  a__law_one : Addr
  d__law_one : FuncData
  F__law_one : Fun K "_law_one" "_law_one" s__law_one a__law_one d__law_one
  b__law_one : Binds K d__law_one ["entries", "node", "life", "runs", "confirmed", "held"] []
  g__law_one : mg "_law_one" = some (.ref a__law_one)
  a_law : Addr
  d_law : FuncData
  F_law : Fun K "law" "law" s_law a_law d_law
  b_law : Binds K d_law ["script"] []
  g_law : mg "law" = some (.ref a_law)
  K_Runs : Cls K a_Runs
  g_Runs : mg "Runs" = some (.ref a_Runs)
  M_Runs : Mk K a_Runs a_Runs___init__
  na_Runs__borns : NoAttr K a_Runs "_borns"
  t_TEXT : Tok
  c_TEXT : mg "TEXT" = some (.int 1 t_TEXT)
  t_SIZE : Tok
  c_SIZE : mg "SIZE" = some (.int 2 t_SIZE)
  t_STATE : Tok
  c_STATE : mg "STATE" = some (.int 3 t_STATE)
  t_STOP : Tok
  c_STOP : mg "STOP" = some (.int 4 t_STOP)
  t_NODE : Tok
  c_NODE : mg "NODE" = some (.int 5 t_NODE)
  t_LIFE : Tok
  c_LIFE : mg "LIFE" = some (.int 6 t_LIFE)
  n_len : mg "len" = none
  n_abs : mg "abs" = none
  n_int : mg "int" = none
  n_sorted : mg "sorted" = none
  n_str : mg "str" = none
  n_range : mg "range" = none

theorem ne_Runs_begin__borns : (Str.ofString "begin" == Str.ofString "_borns") = false := by decide +kernel
theorem ne_Runs_begin__borns_p : ¬ (Str.ofString "begin" = Str.ofString "_borns") := by decide +kernel
theorem ne_Runs_end__borns : (Str.ofString "end" == Str.ofString "_borns") = false := by decide +kernel
theorem ne_Runs_end__borns_p : ¬ (Str.ofString "end" = Str.ofString "_borns") := by decide +kernel
theorem ne_Runs_end_all__borns : (Str.ofString "end_all" == Str.ofString "_borns") = false := by decide +kernel
theorem ne_Runs_end_all__borns_p : ¬ (Str.ofString "end_all" = Str.ofString "_borns") := by decide +kernel
theorem ne_Runs_born_of__borns : (Str.ofString "born_of" == Str.ofString "_borns") = false := by decide +kernel
theorem ne_Runs_born_of__borns_p : ¬ (Str.ofString "born_of" = Str.ofString "_borns") := by decide +kernel
theorem ne_Runs_slots__borns : (Str.ofString "slots" == Str.ofString "_borns") = false := by decide +kernel
theorem ne_Runs_slots__borns_p : ¬ (Str.ofString "slots" = Str.ofString "_borns") := by decide +kernel
/-- the attributes of a Runs, in the order in which they are stored -/
def fl_Runs (v0 : V) : List (Str × V) := [("_borns", v0)]
theorem fl_Runs__borns {v0 : V} : (fl_Runs v0).lookup ("_borns" : Str) = some v0 := by unfold fl_Runs; simp [List.lookup, ne_Runs_begin__borns, ne_Runs_end__borns, ne_Runs_end_all__borns, ne_Runs_born_of__borns, ne_Runs_slots__borns, ne_Runs_begin__borns_p, ne_Runs_end__borns_p, ne_Runs_end_all__borns_p, ne_Runs_born_of__borns_p, ne_Runs_slots__borns_p]
theorem pf_Runs__borns {v0 x : V} : putF ("_borns" : Str) x (fl_Runs v0) = fl_Runs x := by unfold fl_Runs; simp [putF, ne_Runs_begin__borns, ne_Runs_end__borns, ne_Runs_end_all__borns, ne_Runs_born_of__borns, ne_Runs_slots__borns, ne_Runs_begin__borns_p, ne_Runs_end__borns_p, ne_Runs_end_all__borns_p, ne_Runs_born_of__borns_p, ne_Runs_slots__borns_p]
theorem fl_Runs_no_begin {v0 : V} : (fl_Runs v0).lookup ("begin" : Str) = none := by unfold fl_Runs; simp [List.lookup, ne_Runs_begin__borns, ne_Runs_end__borns, ne_Runs_end_all__borns, ne_Runs_born_of__borns, ne_Runs_slots__borns, ne_Runs_begin__borns_p, ne_Runs_end__borns_p, ne_Runs_end_all__borns_p, ne_Runs_born_of__borns_p, ne_Runs_slots__borns_p]
theorem fl_Runs_no_end {v0 : V} : (fl_Runs v0).lookup ("end" : Str) = none := by unfold fl_Runs; simp [List.lookup, ne_Runs_begin__borns, ne_Runs_end__borns, ne_Runs_end_all__borns, ne_Runs_born_of__borns, ne_Runs_slots__borns, ne_Runs_begin__borns_p, ne_Runs_end__borns_p, ne_Runs_end_all__borns_p, ne_Runs_born_of__borns_p, ne_Runs_slots__borns_p]
theorem fl_Runs_no_end_all {v0 : V} : (fl_Runs v0).lookup ("end_all" : Str) = none := by unfold fl_Runs; simp [List.lookup, ne_Runs_begin__borns, ne_Runs_end__borns, ne_Runs_end_all__borns, ne_Runs_born_of__borns, ne_Runs_slots__borns, ne_Runs_begin__borns_p, ne_Runs_end__borns_p, ne_Runs_end_all__borns_p, ne_Runs_born_of__borns_p, ne_Runs_slots__borns_p]
theorem fl_Runs_no_born_of {v0 : V} : (fl_Runs v0).lookup ("born_of" : Str) = none := by unfold fl_Runs; simp [List.lookup, ne_Runs_begin__borns, ne_Runs_end__borns, ne_Runs_end_all__borns, ne_Runs_born_of__borns, ne_Runs_slots__borns, ne_Runs_begin__borns_p, ne_Runs_end__borns_p, ne_Runs_end_all__borns_p, ne_Runs_born_of__borns_p, ne_Runs_slots__borns_p]
theorem fl_Runs_no_slots {v0 : V} : (fl_Runs v0).lookup ("slots" : Str) = none := by unfold fl_Runs; simp [List.lookup, ne_Runs_begin__borns, ne_Runs_end__borns, ne_Runs_end_all__borns, ne_Runs_born_of__borns, ne_Runs_slots__borns, ne_Runs_begin__borns_p, ne_Runs_end__borns_p, ne_Runs_end_all__borns_p, ne_Runs_born_of__borns_p, ne_Runs_slots__borns_p]
theorem fl_Runs_new {v0 : V} : putF ("_borns" : Str) v0 ([]) = fl_Runs v0 := by unfold fl_Runs; simp [putF, ne_Runs_begin__borns, ne_Runs_end__borns, ne_Runs_end_all__borns, ne_Runs_born_of__borns, ne_Runs_slots__borns, ne_Runs_begin__borns_p, ne_Runs_end__borns_p, ne_Runs_end_all__borns_p, ne_Runs_born_of__borns_p, ne_Runs_slots__borns_p]

/-- a statement that changes nothing, then the rest -/
theorem cut_same {t u : TS} {D : L2.Ends} {σ : L2.St} {H : Hp} (h1 : t { D with nx := fun σ' G => σ' = σ ∧ G = H } σ H) (h2 : u D σ H) : C8.tCut t u D σ H := ⟨_, h1, fun _ _ ⟨a, b⟩ => by rw [a, b]; exact h2⟩
/-- the slots written out -/
theorem nrm4 {t : TS} {D : L2.Ends} {σ : L2.St} {H : Hp} {a0 a1 a2 a3 : Option V} (e : σ = [a0, a1, a2, a3]) (h : t D [a0, a1, a2, a3] H) : t D σ H := by rw [e]; exact h
theorem nrm5 {t : TS} {D : L2.Ends} {σ : L2.St} {H : Hp} {a0 a1 a2 a3 a4 : Option V} (e : σ = [a0, a1, a2, a3, a4]) (h : t D [a0, a1, a2, a3, a4] H) : t D σ H := by rw [e]; exact h
theorem nrm6 {t : TS} {D : L2.Ends} {σ : L2.St} {H : Hp} {a0 a1 a2 a3 a4 a5 : Option V} (e : σ = [a0, a1, a2, a3, a4, a5]) (h : t D [a0, a1, a2, a3, a4, a5] H) : t D σ H := by rw [e]; exact h
theorem nrm7 {t : TS} {D : L2.Ends} {σ : L2.St} {H : Hp} {a0 a1 a2 a3 a4 a5 a6 : Option V} (e : σ = [a0, a1, a2, a3, a4, a5, a6]) (h : t D [a0, a1, a2, a3, a4, a5, a6] H) : t D σ H := by rw [e]; exact h
theorem nrm8 {t : TS} {D : L2.Ends} {σ : L2.St} {H : Hp} {a0 a1 a2 a3 a4 a5 a6 a7 : Option V} (e : σ = [a0, a1, a2, a3, a4, a5, a6, a7]) (h : t D [a0, a1, a2, a3, a4, a5, a6, a7] H) : t D σ H := by rw [e]; exact h
theorem nrm9 {t : TS} {D : L2.Ends} {σ : L2.St} {H : Hp} {a0 a1 a2 a3 a4 a5 a6 a7 a8 : Option V} (e : σ = [a0, a1, a2, a3, a4, a5, a6, a7, a8]) (h : t D [a0, a1, a2, a3, a4, a5, a6, a7, a8] H) : t D σ H := by rw [e]; exact h
theorem nrm10 {t : TS} {D : L2.Ends} {σ : L2.St} {H : Hp} {a0 a1 a2 a3 a4 a5 a6 a7 a8 a9 : Option V} (e : σ = [a0, a1, a2, a3, a4, a5, a6, a7, a8, a9]) (h : t D [a0, a1, a2, a3, a4, a5, a6, a7, a8, a9] H) : t D σ H := by rw [e]; exact h
theorem nrm11 {t : TS} {D : L2.Ends} {σ : L2.St} {H : Hp} {a0 a1 a2 a3 a4 a5 a6 a7 a8 a9 a10 : Option V} (e : σ = [a0, a1, a2, a3, a4, a5, a6, a7, a8, a9, a10]) (h : t D [a0, a1, a2, a3, a4, a5, a6, a7, a8, a9, a10] H) : t D σ H := by rw [e]; exact h
theorem nrm12 {t : TS} {D : L2.Ends} {σ : L2.St} {H : Hp} {a0 a1 a2 a3 a4 a5 a6 a7 a8 a9 a10 a11 : Option V} (e : σ = [a0, a1, a2, a3, a4, a5, a6, a7, a8, a9, a10, a11]) (h : t D [a0, a1, a2, a3, a4, a5, a6, a7, a8, a9, a10, a11] H) : t D σ H := by rw [e]; exact h
theorem nrm13 {t : TS} {D : L2.Ends} {σ : L2.St} {H : Hp} {a0 a1 a2 a3 a4 a5 a6 a7 a8 a9 a10 a11 a12 : Option V} (e : σ = [a0, a1, a2, a3, a4, a5, a6, a7, a8, a9, a10, a11, a12]) (h : t D [a0, a1, a2, a3, a4, a5, a6, a7, a8, a9, a10, a11, a12] H) : t D σ H := by rw [e]; exact h
theorem nrm14 {t : TS} {D : L2.Ends} {σ : L2.St} {H : Hp} {a0 a1 a2 a3 a4 a5 a6 a7 a8 a9 a10 a11 a12 a13 : Option V} (e : σ = [a0, a1, a2, a3, a4, a5, a6, a7, a8, a9, a10, a11, a12, a13]) (h : t D [a0, a1, a2, a3, a4, a5, a6, a7, a8, a9, a10, a11, a12, a13] H) : t D σ H := by rw [e]; exact h
theorem nrm15 {t : TS} {D : L2.Ends} {σ : L2.St} {H : Hp} {a0 a1 a2 a3 a4 a5 a6 a7 a8 a9 a10 a11 a12 a13 a14 : Option V} (e : σ = [a0, a1, a2, a3, a4, a5, a6, a7, a8, a9, a10, a11, a12, a13, a14]) (h : t D [a0, a1, a2, a3, a4, a5, a6, a7, a8, a9, a10, a11, a12, a13, a14] H) : t D σ H := by rw [e]; exact h
theorem nrm16 {t : TS} {D : L2.Ends} {σ : L2.St} {H : Hp} {a0 a1 a2 a3 a4 a5 a6 a7 a8 a9 a10 a11 a12 a13 a14 a15 : Option V} (e : σ = [a0, a1, a2, a3, a4, a5, a6, a7, a8, a9, a10, a11, a12, a13, a14, a15]) (h : t D [a0, a1, a2, a3, a4, a5, a6, a7, a8, a9, a10, a11, a12, a13, a14, a15] H) : t D σ H := by rw [e]; exact h
theorem nrm17 {t : TS} {D : L2.Ends} {σ : L2.St} {H : Hp} {a0 a1 a2 a3 a4 a5 a6 a7 a8 a9 a10 a11 a12 a13 a14 a15 a16 : Option V} (e : σ = [a0, a1, a2, a3, a4, a5, a6, a7, a8, a9, a10, a11, a12, a13, a14, a15, a16]) (h : t D [a0, a1, a2, a3, a4, a5, a6, a7, a8, a9, a10, a11, a12, a13, a14, a15, a16] H) : t D σ H := by rw [e]; exact h
theorem nrm18 {t : TS} {D : L2.Ends} {σ : L2.St} {H : Hp} {a0 a1 a2 a3 a4 a5 a6 a7 a8 a9 a10 a11 a12 a13 a14 a15 a16 a17 : Option V} (e : σ = [a0, a1, a2, a3, a4, a5, a6, a7, a8, a9, a10, a11, a12, a13, a14, a15, a16, a17]) (h : t D [a0, a1, a2, a3, a4, a5, a6, a7, a8, a9, a10, a11, a12, a13, a14, a15, a16, a17] H) : t D σ H := by rw [e]; exact h
theorem nrm19 {t : TS} {D : L2.Ends} {σ : L2.St} {H : Hp} {a0 a1 a2 a3 a4 a5 a6 a7 a8 a9 a10 a11 a12 a13 a14 a15 a16 a17 a18 : Option V} (e : σ = [a0, a1, a2, a3, a4, a5, a6, a7, a8, a9, a10, a11, a12, a13, a14, a15, a16, a17, a18]) (h : t D [a0, a1, a2, a3, a4, a5, a6, a7, a8, a9, a10, a11, a12, a13, a14, a15, a16, a17, a18] H) : t D σ H := by rw [e]; exact h
theorem nrm20 {t : TS} {D : L2.Ends} {σ : L2.St} {H : Hp} {a0 a1 a2 a3 a4 a5 a6 a7 a8 a9 a10 a11 a12 a13 a14 a15 a16 a17 a18 a19 : Option V} (e : σ = [a0, a1, a2, a3, a4, a5, a6, a7, a8, a9, a10, a11, a12, a13, a14, a15, a16, a17, a18, a19]) (h : t D [a0, a1, a2, a3, a4, a5, a6, a7, a8, a9, a10, a11, a12, a13, a14, a15, a16, a17, a18, a19] H) : t D σ H := by rw [e]; exact h
theorem nrm21 {t : TS} {D : L2.Ends} {σ : L2.St} {H : Hp} {a0 a1 a2 a3 a4 a5 a6 a7 a8 a9 a10 a11 a12 a13 a14 a15 a16 a17 a18 a19 a20 : Option V} (e : σ = [a0, a1, a2, a3, a4, a5, a6, a7, a8, a9, a10, a11, a12, a13, a14, a15, a16, a17, a18, a19, a20]) (h : t D [a0, a1, a2, a3, a4, a5, a6, a7, a8, a9, a10, a11, a12, a13, a14, a15, a16, a17, a18, a19, a20] H) : t D σ H := by rw [e]; exact h
theorem nrm22 {t : TS} {D : L2.Ends} {σ : L2.St} {H : Hp} {a0 a1 a2 a3 a4 a5 a6 a7 a8 a9 a10 a11 a12 a13 a14 a15 a16 a17 a18 a19 a20 a21 : Option V} (e : σ = [a0, a1, a2, a3, a4, a5, a6, a7, a8, a9, a10, a11, a12, a13, a14, a15, a16, a17, a18, a19, a20, a21]) (h : t D [a0, a1, a2, a3, a4, a5, a6, a7, a8, a9, a10, a11, a12, a13, a14, a15, a16, a17, a18, a19, a20, a21] H) : t D σ H := by rw [e]; exact h
theorem nrm23 {t : TS} {D : L2.Ends} {σ : L2.St} {H : Hp} {a0 a1 a2 a3 a4 a5 a6 a7 a8 a9 a10 a11 a12 a13 a14 a15 a16 a17 a18 a19 a20 a21 a22 : Option V} (e : σ = [a0, a1, a2, a3, a4, a5, a6, a7, a8, a9, a10, a11, a12, a13, a14, a15, a16, a17, a18, a19, a20, a21, a22]) (h : t D [a0, a1, a2, a3, a4, a5, a6, a7, a8, a9, a10, a11, a12, a13, a14, a15, a16, a17, a18, a19, a20, a21, a22] H) : t D σ H := by rw [e]; exact h
theorem nrm24 {t : TS} {D : L2.Ends} {σ : L2.St} {H : Hp} {a0 a1 a2 a3 a4 a5 a6 a7 a8 a9 a10 a11 a12 a13 a14 a15 a16 a17 a18 a19 a20 a21 a22 a23 : Option V} (e : σ = [a0, a1, a2, a3, a4, a5, a6, a7, a8, a9, a10, a11, a12, a13, a14, a15, a16, a17, a18, a19, a20, a21, a22, a23]) (h : t D [a0, a1, a2, a3, a4, a5, a6, a7, a8, a9, a10, a11, a12, a13, a14, a15, a16, a17, a18, a19, a20, a21, a22, a23] H) : t D σ H := by rw [e]; exact h
theorem nrm25 {t : TS} {D : L2.Ends} {σ : L2.St} {H : Hp} {a0 a1 a2 a3 a4 a5 a6 a7 a8 a9 a10 a11 a12 a13 a14 a15 a16 a17 a18 a19 a20 a21 a22 a23 a24 : Option V} (e : σ = [a0, a1, a2, a3, a4, a5, a6, a7, a8, a9, a10, a11, a12, a13, a14, a15, a16, a17, a18, a19, a20, a21, a22, a23, a24]) (h : t D [a0, a1, a2, a3, a4, a5, a6, a7, a8, a9, a10, a11, a12, a13, a14, a15, a16, a17, a18, a19, a20, a21, a22, a23, a24] H) : t D σ H := by rw [e]; exact h
theorem nrm26 {t : TS} {D : L2.Ends} {σ : L2.St} {H : Hp} {a0 a1 a2 a3 a4 a5 a6 a7 a8 a9 a10 a11 a12 a13 a14 a15 a16 a17 a18 a19 a20 a21 a22 a23 a24 a25 : Option V} (e : σ = [a0, a1, a2, a3, a4, a5, a6, a7, a8, a9, a10, a11, a12, a13, a14, a15, a16, a17, a18, a19, a20, a21, a22, a23, a24, a25]) (h : t D [a0, a1, a2, a3, a4, a5, a6, a7, a8, a9, a10, a11, a12, a13, a14, a15, a16, a17, a18, a19, a20, a21, a22, a23, a24, a25] H) : t D σ H := by rw [e]; exact h
/-- a name is stored, the slots written out -/
theorem gnm4 {i : Nat} {v : V} {σ : L2.St} {H : Hp} {Q : L2.St → Hp → Prop} {a0 a1 a2 a3 : Option V} (e : σ.set i (some v) = [a0, a1, a2, a3]) (h : Q [a0, a1, a2, a3] H) : gName i v σ H Q := by show Q (σ.set i (some v)) H; rw [e]; exact h
theorem gnm5 {i : Nat} {v : V} {σ : L2.St} {H : Hp} {Q : L2.St → Hp → Prop} {a0 a1 a2 a3 a4 : Option V} (e : σ.set i (some v) = [a0, a1, a2, a3, a4]) (h : Q [a0, a1, a2, a3, a4] H) : gName i v σ H Q := by show Q (σ.set i (some v)) H; rw [e]; exact h
theorem gnm6 {i : Nat} {v : V} {σ : L2.St} {H : Hp} {Q : L2.St → Hp → Prop} {a0 a1 a2 a3 a4 a5 : Option V} (e : σ.set i (some v) = [a0, a1, a2, a3, a4, a5]) (h : Q [a0, a1, a2, a3, a4, a5] H) : gName i v σ H Q := by show Q (σ.set i (some v)) H; rw [e]; exact h
theorem gnm7 {i : Nat} {v : V} {σ : L2.St} {H : Hp} {Q : L2.St → Hp → Prop} {a0 a1 a2 a3 a4 a5 a6 : Option V} (e : σ.set i (some v) = [a0, a1, a2, a3, a4, a5, a6]) (h : Q [a0, a1, a2, a3, a4, a5, a6] H) : gName i v σ H Q := by show Q (σ.set i (some v)) H; rw [e]; exact h
theorem gnm8 {i : Nat} {v : V} {σ : L2.St} {H : Hp} {Q : L2.St → Hp → Prop} {a0 a1 a2 a3 a4 a5 a6 a7 : Option V} (e : σ.set i (some v) = [a0, a1, a2, a3, a4, a5, a6, a7]) (h : Q [a0, a1, a2, a3, a4, a5, a6, a7] H) : gName i v σ H Q := by show Q (σ.set i (some v)) H; rw [e]; exact h
theorem gnm9 {i : Nat} {v : V} {σ : L2.St} {H : Hp} {Q : L2.St → Hp → Prop} {a0 a1 a2 a3 a4 a5 a6 a7 a8 : Option V} (e : σ.set i (some v) = [a0, a1, a2, a3, a4, a5, a6, a7, a8]) (h : Q [a0, a1, a2, a3, a4, a5, a6, a7, a8] H) : gName i v σ H Q := by show Q (σ.set i (some v)) H; rw [e]; exact h
theorem gnm10 {i : Nat} {v : V} {σ : L2.St} {H : Hp} {Q : L2.St → Hp → Prop} {a0 a1 a2 a3 a4 a5 a6 a7 a8 a9 : Option V} (e : σ.set i (some v) = [a0, a1, a2, a3, a4, a5, a6, a7, a8, a9]) (h : Q [a0, a1, a2, a3, a4, a5, a6, a7, a8, a9] H) : gName i v σ H Q := by show Q (σ.set i (some v)) H; rw [e]; exact h
theorem gnm11 {i : Nat} {v : V} {σ : L2.St} {H : Hp} {Q : L2.St → Hp → Prop} {a0 a1 a2 a3 a4 a5 a6 a7 a8 a9 a10 : Option V} (e : σ.set i (some v) = [a0, a1, a2, a3, a4, a5, a6, a7, a8, a9, a10]) (h : Q [a0, a1, a2, a3, a4, a5, a6, a7, a8, a9, a10] H) : gName i v σ H Q := by show Q (σ.set i (some v)) H; rw [e]; exact h
theorem gnm12 {i : Nat} {v : V} {σ : L2.St} {H : Hp} {Q : L2.St → Hp → Prop} {a0 a1 a2 a3 a4 a5 a6 a7 a8 a9 a10 a11 : Option V} (e : σ.set i (some v) = [a0, a1, a2, a3, a4, a5, a6, a7, a8, a9, a10, a11]) (h : Q [a0, a1, a2, a3, a4, a5, a6, a7, a8, a9, a10, a11] H) : gName i v σ H Q := by show Q (σ.set i (some v)) H; rw [e]; exact h
theorem gnm13 {i : Nat} {v : V} {σ : L2.St} {H : Hp} {Q : L2.St → Hp → Prop} {a0 a1 a2 a3 a4 a5 a6 a7 a8 a9 a10 a11 a12 : Option V} (e : σ.set i (some v) = [a0, a1, a2, a3, a4, a5, a6, a7, a8, a9, a10, a11, a12]) (h : Q [a0, a1, a2, a3, a4, a5, a6, a7, a8, a9, a10, a11, a12] H) : gName i v σ H Q := by show Q (σ.set i (some v)) H; rw [e]; exact h
theorem gnm14 {i : Nat} {v : V} {σ : L2.St} {H : Hp} {Q : L2.St → Hp → Prop} {a0 a1 a2 a3 a4 a5 a6 a7 a8 a9 a10 a11 a12 a13 : Option V} (e : σ.set i (some v) = [a0, a1, a2, a3, a4, a5, a6, a7, a8, a9, a10, a11, a12, a13]) (h : Q [a0, a1, a2, a3, a4, a5, a6, a7, a8, a9, a10, a11, a12, a13] H) : gName i v σ H Q := by show Q (σ.set i (some v)) H; rw [e]; exact h
theorem gnm15 {i : Nat} {v : V} {σ : L2.St} {H : Hp} {Q : L2.St → Hp → Prop} {a0 a1 a2 a3 a4 a5 a6 a7 a8 a9 a10 a11 a12 a13 a14 : Option V} (e : σ.set i (some v) = [a0, a1, a2, a3, a4, a5, a6, a7, a8, a9, a10, a11, a12, a13, a14]) (h : Q [a0, a1, a2, a3, a4, a5, a6, a7, a8, a9, a10, a11, a12, a13, a14] H) : gName i v σ H Q := by show Q (σ.set i (some v)) H; rw [e]; exact h
theorem gnm16 {i : Nat} {v : V} {σ : L2.St} {H : Hp} {Q : L2.St → Hp → Prop} {a0 a1 a2 a3 a4 a5 a6 a7 a8 a9 a10 a11 a12 a13 a14 a15 : Option V} (e : σ.set i (some v) = [a0, a1, a2, a3, a4, a5, a6, a7, a8, a9, a10, a11, a12, a13, a14, a15]) (h : Q [a0, a1, a2, a3, a4, a5, a6, a7, a8, a9, a10, a11, a12, a13, a14, a15] H) : gName i v σ H Q := by show Q (σ.set i (some v)) H; rw [e]; exact h
theorem gnm17 {i : Nat} {v : V} {σ : L2.St} {H : Hp} {Q : L2.St → Hp → Prop} {a0 a1 a2 a3 a4 a5 a6 a7 a8 a9 a10 a11 a12 a13 a14 a15 a16 : Option V} (e : σ.set i (some v) = [a0, a1, a2, a3, a4, a5, a6, a7, a8, a9, a10, a11, a12, a13, a14, a15, a16]) (h : Q [a0, a1, a2, a3, a4, a5, a6, a7, a8, a9, a10, a11, a12, a13, a14, a15, a16] H) : gName i v σ H Q := by show Q (σ.set i (some v)) H; rw [e]; exact h
theorem gnm18 {i : Nat} {v : V} {σ : L2.St} {H : Hp} {Q : L2.St → Hp → Prop} {a0 a1 a2 a3 a4 a5 a6 a7 a8 a9 a10 a11 a12 a13 a14 a15 a16 a17 : Option V} (e : σ.set i (some v) = [a0, a1, a2, a3, a4, a5, a6, a7, a8, a9, a10, a11, a12, a13, a14, a15, a16, a17]) (h : Q [a0, a1, a2, a3, a4, a5, a6, a7, a8, a9, a10, a11, a12, a13, a14, a15, a16, a17] H) : gName i v σ H Q := by show Q (σ.set i (some v)) H; rw [e]; exact h
theorem gnm19 {i : Nat} {v : V} {σ : L2.St} {H : Hp} {Q : L2.St → Hp → Prop} {a0 a1 a2 a3 a4 a5 a6 a7 a8 a9 a10 a11 a12 a13 a14 a15 a16 a17 a18 : Option V} (e : σ.set i (some v) = [a0, a1, a2, a3, a4, a5, a6, a7, a8, a9, a10, a11, a12, a13, a14, a15, a16, a17, a18]) (h : Q [a0, a1, a2, a3, a4, a5, a6, a7, a8, a9, a10, a11, a12, a13, a14, a15, a16, a17, a18] H) : gName i v σ H Q := by show Q (σ.set i (some v)) H; rw [e]; exact h
theorem gnm20 {i : Nat} {v : V} {σ : L2.St} {H : Hp} {Q : L2.St → Hp → Prop} {a0 a1 a2 a3 a4 a5 a6 a7 a8 a9 a10 a11 a12 a13 a14 a15 a16 a17 a18 a19 : Option V} (e : σ.set i (some v) = [a0, a1, a2, a3, a4, a5, a6, a7, a8, a9, a10, a11, a12, a13, a14, a15, a16, a17, a18, a19]) (h : Q [a0, a1, a2, a3, a4, a5, a6, a7, a8, a9, a10, a11, a12, a13, a14, a15, a16, a17, a18, a19] H) : gName i v σ H Q := by show Q (σ.set i (some v)) H; rw [e]; exact h
theorem gnm21 {i : Nat} {v : V} {σ : L2.St} {H : Hp} {Q : L2.St → Hp → Prop} {a0 a1 a2 a3 a4 a5 a6 a7 a8 a9 a10 a11 a12 a13 a14 a15 a16 a17 a18 a19 a20 : Option V} (e : σ.set i (some v) = [a0, a1, a2, a3, a4, a5, a6, a7, a8, a9, a10, a11, a12, a13, a14, a15, a16, a17, a18, a19, a20]) (h : Q [a0, a1, a2, a3, a4, a5, a6, a7, a8, a9, a10, a11, a12, a13, a14, a15, a16, a17, a18, a19, a20] H) : gName i v σ H Q := by show Q (σ.set i (some v)) H; rw [e]; exact h
theorem gnm22 {i : Nat} {v : V} {σ : L2.St} {H : Hp} {Q : L2.St → Hp → Prop} {a0 a1 a2 a3 a4 a5 a6 a7 a8 a9 a10 a11 a12 a13 a14 a15 a16 a17 a18 a19 a20 a21 : Option V} (e : σ.set i (some v) = [a0, a1, a2, a3, a4, a5, a6, a7, a8, a9, a10, a11, a12, a13, a14, a15, a16, a17, a18, a19, a20, a21]) (h : Q [a0, a1, a2, a3, a4, a5, a6, a7, a8, a9, a10, a11, a12, a13, a14, a15, a16, a17, a18, a19, a20, a21] H) : gName i v σ H Q := by show Q (σ.set i (some v)) H; rw [e]; exact h
theorem gnm23 {i : Nat} {v : V} {σ : L2.St} {H : Hp} {Q : L2.St → Hp → Prop} {a0 a1 a2 a3 a4 a5 a6 a7 a8 a9 a10 a11 a12 a13 a14 a15 a16 a17 a18 a19 a20 a21 a22 : Option V} (e : σ.set i (some v) = [a0, a1, a2, a3, a4, a5, a6, a7, a8, a9, a10, a11, a12, a13, a14, a15, a16, a17, a18, a19, a20, a21, a22]) (h : Q [a0, a1, a2, a3, a4, a5, a6, a7, a8, a9, a10, a11, a12, a13, a14, a15, a16, a17, a18, a19, a20, a21, a22] H) : gName i v σ H Q := by show Q (σ.set i (some v)) H; rw [e]; exact h
theorem gnm24 {i : Nat} {v : V} {σ : L2.St} {H : Hp} {Q : L2.St → Hp → Prop} {a0 a1 a2 a3 a4 a5 a6 a7 a8 a9 a10 a11 a12 a13 a14 a15 a16 a17 a18 a19 a20 a21 a22 a23 : Option V} (e : σ.set i (some v) = [a0, a1, a2, a3, a4, a5, a6, a7, a8, a9, a10, a11, a12, a13, a14, a15, a16, a17, a18, a19, a20, a21, a22, a23]) (h : Q [a0, a1, a2, a3, a4, a5, a6, a7, a8, a9, a10, a11, a12, a13, a14, a15, a16, a17, a18, a19, a20, a21, a22, a23] H) : gName i v σ H Q := by show Q (σ.set i (some v)) H; rw [e]; exact h
theorem gnm25 {i : Nat} {v : V} {σ : L2.St} {H : Hp} {Q : L2.St → Hp → Prop} {a0 a1 a2 a3 a4 a5 a6 a7 a8 a9 a10 a11 a12 a13 a14 a15 a16 a17 a18 a19 a20 a21 a22 a23 a24 : Option V} (e : σ.set i (some v) = [a0, a1, a2, a3, a4, a5, a6, a7, a8, a9, a10, a11, a12, a13, a14, a15, a16, a17, a18, a19, a20, a21, a22, a23, a24]) (h : Q [a0, a1, a2, a3, a4, a5, a6, a7, a8, a9, a10, a11, a12, a13, a14, a15, a16, a17, a18, a19, a20, a21, a22, a23, a24] H) : gName i v σ H Q := by show Q (σ.set i (some v)) H; rw [e]; exact h
theorem gnm26 {i : Nat} {v : V} {σ : L2.St} {H : Hp} {Q : L2.St → Hp → Prop} {a0 a1 a2 a3 a4 a5 a6 a7 a8 a9 a10 a11 a12 a13 a14 a15 a16 a17 a18 a19 a20 a21 a22 a23 a24 a25 : Option V} (e : σ.set i (some v) = [a0, a1, a2, a3, a4, a5, a6, a7, a8, a9, a10, a11, a12, a13, a14, a15, a16, a17, a18, a19, a20, a21, a22, a23, a24, a25]) (h : Q [a0, a1, a2, a3, a4, a5, a6, a7, a8, a9, a10, a11, a12, a13, a14, a15, a16, a17, a18, a19, a20, a21, a22, a23, a24, a25] H) : gName i v σ H Q := by show Q (σ.set i (some v)) H; rw [e]; exact h
/-- name = a constant, then the rest -/
theorem asgC {v : V} {i : Nat} {t : TS} {D : L2.Ends} {σ : L2.St} {H : Hp} (h : gName i v σ H (t D)) : tSeq (tAsg (tC v) (gName i)) t D σ H := h
/-! comprehensions whose elements are data -/
/-- what stood in G away from D stands in G'' -/
def Off (D : Addr) (G G'' : Hp) : Prop := ∀ b o, b ≠ D → G b = some o → G'' b = some o
theorem Off.refl (D : Addr) (G : Hp) : Off D G G := fun _ _ _ h => h
theorem Off.pre {D : Addr} {G G' G'' : Hp} (s : Same G G') (h : Off D G' G'') : Off D G G'' := fun b o n e => h b o n (s b o e)
theorem Off.put {D : Addr} {G G'' : Hp} {o : HO} (h : Off D (upd G D o) G'') : Off D G G'' := fun b u n e => h b u n (by rw [upd_ne n]; exact e)
theorem lcg {K : PySem.W.Frag} {J : It} {n : Nat} {Gd : Hp → Prop} {Y : Nat → Hp → V → Hp → Prop} (w : Walk J n Gd Y) {g : TG} {tt : TT} {te : TE} {vs : List Nat} {σ : L2.St} {H : Hp} {D : Addr} {Qd : Hp → Prop}
    (P : Nat → List PyData → Prop) (h0 : P 0 []) (hD : H D = none) (hG : ∀ G, Same H G → Gd G) (hn : n ≤ 90000)
    (hs : ∀ i x G G1 ds, i < n → Same H G → (∃ l, G D = some (.lst l)) → P i ds → Y i G x G1 → ∀ J : Option V → Hp → Prop, (∀ G', Same G G' → P (i + 1) ds → J none G') →
      (∀ y d G', Same G G' → (∀ G'', Same H G'' → Off D G' G'' → Dp K G'' y d) → P (i + 1) (ds ++ [d]) → J (some y) G') →
      g x (wipe σ vs) G1 fun σ2 H2 => wipe σ2 vs = wipe σ vs ∧ tt σ2 H2 fun b H3 => if b = true then te σ2 H3 fun y H4 => J (some y) H4 else J none H3)
    (k : ∀ H' ys ds, Same H H' → H' D = some (.lst ys) → DpAll K H' ys ds → P n ds → Qd H') :
    ∃ W : Nat → Nat → Hp → Prop, (∃ m, W 0 m (upd H D (.lst []))) ∧ ∀ i m H, W i m H →
      (J.stop i H ∧ Qd H) ∨ (J.go i H ∧ ∃ Nx : Hp → Prop, (∀ H', Nx H' → ∃ m', m' < m ∧ W (i + 1) m' H') ∧ ∀ x H', J.yld i H x H' → g x (wipe σ vs) H' fun σ2 H2 => wipe σ2 vs = wipe σ vs ∧ tt σ2 H2 fun b H3 =>
        if b = true then te σ2 H3 fun y H4 => ∃ acc, H4 D = some (.lst acc) ∧ acc.length < sizeLine ∧ Nx (upd H4 D (.lst (acc ++ [y]))) else Nx H3) := by
  refine lc_it w (fun i G => ∃ ys ds, Same H G ∧ G D = some (.lst ys) ∧ (∀ G'', Same H G'' → Off D G G'' → DpAll K G'' ys ds) ∧ P i ds ∧ ds.length ≤ i) ⟨[], [], same_upd hD, upd_same, fun _ _ _ => .nil, h0, Nat.le_refl _⟩ (fun i G _ h => hG G h.choose_spec.choose_spec.1) ?_ ?_
  · rintro i x G G1 hi ⟨ys, ds, s1, e1, h1, p1, l1⟩ hy
    have hl : ys.length = ds.length := dpa_len (h1 G s1 (Off.refl _ _))
    refine hs i x G G1 ds hi s1 ⟨ys, e1⟩ p1 hy (fun o G' => match o with
      | some y => ∃ acc, G' D = some (.lst acc) ∧ acc.length < sizeLine ∧ ∃ ys ds, Same H (upd G' D (.lst (acc ++ [y]))) ∧ (upd G' D (.lst (acc ++ [y]))) D = some (.lst ys) ∧ (∀ G'', Same H G'' → Off D (upd G' D (.lst (acc ++ [y]))) G'' → DpAll K G'' ys ds) ∧ P (i + 1) ds ∧ ds.length ≤ i + 1
      | none => ∃ ys ds, Same H G' ∧ G' D = some (.lst ys) ∧ (∀ G'', Same H G'' → Off D G' G'' → DpAll K G'' ys ds) ∧ P (i + 1) ds ∧ ds.length ≤ i + 1) ?_ ?_
    · exact fun G' s p => ⟨ys, ds, s1.trans s, s _ _ e1, fun G'' s2 o => h1 G'' s2 (Off.pre s o), p, by omega⟩
    · exact fun y d G' s hy p => ⟨ys, s _ _ e1, szl (by omega), ys ++ [y], ds ++ [d], same_put (s1.trans s) hD, upd_same, fun G'' s2 o => dpa_app (h1 G'' s2 (Off.pre s o.put)) (.cons (hy G'' s2 o.put) .nil), p, by rw [List.length_append]; simp only [List.length_cons, List.length_nil]; omega⟩
  · rintro G ⟨ys, ds, s1, e1, h1, p1, _⟩
    exact k G ys ds s1 e1 (h1 G s1 (Off.refl _ _)) p1
/-- over a list of data, each element by a function -/
theorem lcd {α : Type} {K : PySem.W.Frag} {g : TG} {tt : TT} {te : TE} {vs : List Nat} {σ : L2.St} {H : Hp} {D a : Addr} {Qd : Hp → Prop} {xs : List V} (es : List α) (pd : α → PyData) (f : α → Option PyData)
    (hD : H D = none) (hL : SqL K H a xs) (hx : DpAll K H xs (es.map pd)) (hn : es.length ≤ 90000)
    (hs : ∀ x e G, e ∈ es → Same H G → (∃ l, G D = some (.lst l)) → Dp K H x (pd e) → ∀ J : Option V → Hp → Prop, (∀ G', Same G G' → f e = none → J none G') →
      (∀ y d G', Same G G' → (∀ G'', Same H G'' → Off D G' G'' → Dp K G'' y d) → f e = some d → J (some y) G') →
      g x (wipe σ vs) G fun σ2 H2 => wipe σ2 vs = wipe σ vs ∧ tt σ2 H2 fun b H3 => if b = true then te σ2 H3 fun y H4 => J (some y) H4 else J none H3)
    (k : ∀ H' ys, Same H H' → H' D = some (.lst ys) → DpAll K H' ys (es.filterMap f) → Qd H') :
    ∃ W : Nat → Nat → Hp → Prop, (∃ m, W 0 m (upd H D (.lst []))) ∧ ∀ i m H, W i m H →
      ((Itl K a).stop i H ∧ Qd H) ∨ ((Itl K a).go i H ∧ ∃ Nx : Hp → Prop, (∀ H', Nx H' → ∃ m', m' < m ∧ W (i + 1) m' H') ∧ ∀ x H', (Itl K a).yld i H x H' → g x (wipe σ vs) H' fun σ2 H2 => wipe σ2 vs = wipe σ vs ∧ tt σ2 H2 fun b H3 =>
        if b = true then te σ2 H3 fun y H4 => ∃ acc, H4 D = some (.lst acc) ∧ acc.length < sizeLine ∧ Nx (upd H4 D (.lst (acc ++ [y]))) else Nx H3) := by
  have hl : xs.length = es.length := by have := dpa_len hx; rwa [List.length_map] at this
  refine lcg (K := K) (walk_list (K := K) (a := a) (xs := xs)) (fun i ds => ds = (es.take i).filterMap f) rfl hD (fun G s => s.seq hL) (by omega) ?_ ?_
  · rintro i x G G1 ds hi s1 hl1 rfl ⟨rfl, hxi⟩ J j1 j2
    have hi2 : i < es.length := by omega
    have he : es[i]? = some es[i] := List.getElem?_eq_getElem hi2
    obtain ⟨d, hd, hdp⟩ := dpa_at hx hxi
    rw [List.getElem?_map, he] at hd
    cases hd
    have ht : (es.take (i + 1)).filterMap f = (es.take i).filterMap f ++ (f es[i]).toList := by
      rw [take_more he, List.filterMap_append]
      cases e : f es[i] <;> simp [e]
    refine hs x es[i] G1 (List.getElem_mem hi2) s1 hl1 hdp J (fun G' s e => j1 G' s ?_) (fun y d G' s hy e => j2 y d G' s hy ?_)
    · rw [ht, e]; simp
    · rw [ht, e]; rfl
  · rintro H' ys ds s1 e1 h1 rfl
    rw [hl, List.take_length] at h1
    exact k H' ys s1 e1 h1
/-! data taken apart -/
theorem dp_tup {K : PySem.W.Frag} {H : Hp} {x : V} {ds : List PyData} (h : Dp K H x (.tuple ds)) : ∃ p vs, x = .ref p ∧ SqT K H p vs ∧ DpAll K H vs ds := by
  cases h with
  | tup h a => exact ⟨_, _, rfl, h, a⟩
theorem dp_str {K : PySem.W.Frag} {H : Hp} {x : V} {s : Str} (h : Dp K H x (.str s)) : x = .str s := by cases h; rfl
theorem dp_int {K : PySem.W.Frag} {H : Hp} {x : V} {i : Int} (h : Dp K H x (.int i)) : x = .int i := by cases h; rfl
theorem dp_bl {K : PySem.W.Frag} {H : Hp} {x : V} {i : Bool} (h : Dp K H x (.bool i)) : x = .bl i := by cases h; rfl
theorem dpa_nil {K : PySem.W.Frag} {H : Hp} {vs : List V} (h : DpAll K H vs []) : vs = [] := by cases h; rfl
theorem dpa_cons {K : PySem.W.Frag} {H : Hp} {vs : List V} {d : PyData} {ds : List PyData} (h : DpAll K H vs (d :: ds)) : ∃ v ws, vs = v :: ws ∧ Dp K H v d ∧ DpAll K H ws ds := by
  cases h with
  | cons h a => exact ⟨_, _, rfl, h, a⟩
theorem dpa_str {K : PySem.W.Frag} {H : Hp} {vs : List V} {s : Str} {ds : List PyData} (h : DpAll K H vs (.str s :: ds)) : ∃ ws, vs = .str s :: ws ∧ DpAll K H ws ds := by
  obtain ⟨v, ws, rfl, h1, h2⟩ := dpa_cons h
  exact ⟨ws, by rw [dp_str h1], h2⟩
theorem dpa_int {K : PySem.W.Frag} {H : Hp} {vs : List V} {s : Int} {ds : List PyData} (h : DpAll K H vs (.int s :: ds)) : ∃ ws, vs = .int s :: ws ∧ DpAll K H ws ds := by
  obtain ⟨v, ws, rfl, h1, h2⟩ := dpa_cons h
  exact ⟨ws, by rw [dp_int h1], h2⟩
theorem dpa_bl {K : PySem.W.Frag} {H : Hp} {vs : List V} {s : Bool} {ds : List PyData} (h : DpAll K H vs (.bool s :: ds)) : ∃ ws, vs = .bl s :: ws ∧ DpAll K H ws ds := by
  obtain ⟨v, ws, rfl, h1, h2⟩ := dpa_cons h
  exact ⟨ws, by rw [dp_bl h1], h2⟩
theorem fm_if {α β : Type} (p : α → Bool) (g : α → β) : ∀ l : List α, l.filterMap (fun e => if p e = true then some (g e) else none) = (l.filter p).map g
  | [] => rfl
  | a :: l => by
    have ih := fm_if p g l
    cases h : p a <;> simp [h, ih]
theorem dp_t1 {K : PySem.W.Frag} {H : Hp} {x : V} {d0 : PyData} (h : Dp K H x (.tuple [d0])) : ∃ p v0, x = .ref p ∧ SqT K H p [v0] ∧ Dp K H v0 d0 := by
  obtain ⟨p, vs, rfl, ht, h0⟩ := dp_tup h
  cases h0 with | cons g0 h1 =>
  cases h1
  exact ⟨p, _, rfl, ht, g0⟩
theorem dp_t2 {K : PySem.W.Frag} {H : Hp} {x : V} {d0 d1 : PyData} (h : Dp K H x (.tuple [d0, d1])) : ∃ p v0 v1, x = .ref p ∧ SqT K H p [v0, v1] ∧ Dp K H v0 d0 ∧ Dp K H v1 d1 := by
  obtain ⟨p, vs, rfl, ht, h0⟩ := dp_tup h
  cases h0 with | cons g0 h1 =>
  cases h1 with | cons g1 h2 =>
  cases h2
  exact ⟨p, _, _, rfl, ht, g0, g1⟩
theorem dp_t3 {K : PySem.W.Frag} {H : Hp} {x : V} {d0 d1 d2 : PyData} (h : Dp K H x (.tuple [d0, d1, d2])) : ∃ p v0 v1 v2, x = .ref p ∧ SqT K H p [v0, v1, v2] ∧ Dp K H v0 d0 ∧ Dp K H v1 d1 ∧ Dp K H v2 d2 := by
  obtain ⟨p, vs, rfl, ht, h0⟩ := dp_tup h
  cases h0 with | cons g0 h1 =>
  cases h1 with | cons g1 h2 =>
  cases h2 with | cons g2 h3 =>
  cases h3
  exact ⟨p, _, _, _, rfl, ht, g0, g1, g2⟩
theorem dp_t4 {K : PySem.W.Frag} {H : Hp} {x : V} {d0 d1 d2 d3 : PyData} (h : Dp K H x (.tuple [d0, d1, d2, d3])) : ∃ p v0 v1 v2 v3, x = .ref p ∧ SqT K H p [v0, v1, v2, v3] ∧ Dp K H v0 d0 ∧ Dp K H v1 d1 ∧ Dp K H v2 d2 ∧ Dp K H v3 d3 := by
  obtain ⟨p, vs, rfl, ht, h0⟩ := dp_tup h
  cases h0 with | cons g0 h1 =>
  cases h1 with | cons g1 h2 =>
  cases h2 with | cons g2 h3 =>
  cases h3 with | cons g3 h4 =>
  cases h4
  exact ⟨p, _, _, _, _, rfl, ht, g0, g1, g2, g3⟩
theorem dp_t5 {K : PySem.W.Frag} {H : Hp} {x : V} {d0 d1 d2 d3 d4 : PyData} (h : Dp K H x (.tuple [d0, d1, d2, d3, d4])) : ∃ p v0 v1 v2 v3 v4, x = .ref p ∧ SqT K H p [v0, v1, v2, v3, v4] ∧ Dp K H v0 d0 ∧ Dp K H v1 d1 ∧ Dp K H v2 d2 ∧ Dp K H v3 d3 ∧ Dp K H v4 d4 := by
  obtain ⟨p, vs, rfl, ht, h0⟩ := dp_tup h
  cases h0 with | cons g0 h1 =>
  cases h1 with | cons g1 h2 =>
  cases h2 with | cons g2 h3 =>
  cases h3 with | cons g3 h4 =>
  cases h4 with | cons g4 h5 =>
  cases h5
  exact ⟨p, _, _, _, _, _, rfl, ht, g0, g1, g2, g3, g4⟩
theorem dp_t6 {K : PySem.W.Frag} {H : Hp} {x : V} {d0 d1 d2 d3 d4 d5 : PyData} (h : Dp K H x (.tuple [d0, d1, d2, d3, d4, d5])) : ∃ p v0 v1 v2 v3 v4 v5, x = .ref p ∧ SqT K H p [v0, v1, v2, v3, v4, v5] ∧ Dp K H v0 d0 ∧ Dp K H v1 d1 ∧ Dp K H v2 d2 ∧ Dp K H v3 d3 ∧ Dp K H v4 d4 ∧ Dp K H v5 d5 := by
  obtain ⟨p, vs, rfl, ht, h0⟩ := dp_tup h
  cases h0 with | cons g0 h1 =>
  cases h1 with | cons g1 h2 =>
  cases h2 with | cons g2 h3 =>
  cases h3 with | cons g3 h4 =>
  cases h4 with | cons g4 h5 =>
  cases h5 with | cons g5 h6 =>
  cases h6
  exact ⟨p, _, _, _, _, _, _, rfl, ht, g0, g1, g2, g3, g4, g5⟩
theorem dp_t7 {K : PySem.W.Frag} {H : Hp} {x : V} {d0 d1 d2 d3 d4 d5 d6 : PyData} (h : Dp K H x (.tuple [d0, d1, d2, d3, d4, d5, d6])) : ∃ p v0 v1 v2 v3 v4 v5 v6, x = .ref p ∧ SqT K H p [v0, v1, v2, v3, v4, v5, v6] ∧ Dp K H v0 d0 ∧ Dp K H v1 d1 ∧ Dp K H v2 d2 ∧ Dp K H v3 d3 ∧ Dp K H v4 d4 ∧ Dp K H v5 d5 ∧ Dp K H v6 d6 := by
  obtain ⟨p, vs, rfl, ht, h0⟩ := dp_tup h
  cases h0 with | cons g0 h1 =>
  cases h1 with | cons g1 h2 =>
  cases h2 with | cons g2 h3 =>
  cases h3 with | cons g3 h4 =>
  cases h4 with | cons g4 h5 =>
  cases h5 with | cons g5 h6 =>
  cases h6 with | cons g6 h7 =>
  cases h7
  exact ⟨p, _, _, _, _, _, _, _, rfl, ht, g0, g1, g2, g3, g4, g5, g6⟩
theorem dp_t8 {K : PySem.W.Frag} {H : Hp} {x : V} {d0 d1 d2 d3 d4 d5 d6 d7 : PyData} (h : Dp K H x (.tuple [d0, d1, d2, d3, d4, d5, d6, d7])) : ∃ p v0 v1 v2 v3 v4 v5 v6 v7, x = .ref p ∧ SqT K H p [v0, v1, v2, v3, v4, v5, v6, v7] ∧ Dp K H v0 d0 ∧ Dp K H v1 d1 ∧ Dp K H v2 d2 ∧ Dp K H v3 d3 ∧ Dp K H v4 d4 ∧ Dp K H v5 d5 ∧ Dp K H v6 d6 ∧ Dp K H v7 d7 := by
  obtain ⟨p, vs, rfl, ht, h0⟩ := dp_tup h
  cases h0 with | cons g0 h1 =>
  cases h1 with | cons g1 h2 =>
  cases h2 with | cons g2 h3 =>
  cases h3 with | cons g3 h4 =>
  cases h4 with | cons g4 h5 =>
  cases h5 with | cons g5 h6 =>
  cases h6 with | cons g6 h7 =>
  cases h7 with | cons g7 h8 =>
  cases h8
  exact ⟨p, _, _, _, _, _, _, _, _, rfl, ht, g0, g1, g2, g3, g4, g5, g6, g7⟩
theorem dp_t9 {K : PySem.W.Frag} {H : Hp} {x : V} {d0 d1 d2 d3 d4 d5 d6 d7 d8 : PyData} (h : Dp K H x (.tuple [d0, d1, d2, d3, d4, d5, d6, d7, d8])) : ∃ p v0 v1 v2 v3 v4 v5 v6 v7 v8, x = .ref p ∧ SqT K H p [v0, v1, v2, v3, v4, v5, v6, v7, v8] ∧ Dp K H v0 d0 ∧ Dp K H v1 d1 ∧ Dp K H v2 d2 ∧ Dp K H v3 d3 ∧ Dp K H v4 d4 ∧ Dp K H v5 d5 ∧ Dp K H v6 d6 ∧ Dp K H v7 d7 ∧ Dp K H v8 d8 := by
  obtain ⟨p, vs, rfl, ht, h0⟩ := dp_tup h
  cases h0 with | cons g0 h1 =>
  cases h1 with | cons g1 h2 =>
  cases h2 with | cons g2 h3 =>
  cases h3 with | cons g3 h4 =>
  cases h4 with | cons g4 h5 =>
  cases h5 with | cons g5 h6 =>
  cases h6 with | cons g6 h7 =>
  cases h7 with | cons g7 h8 =>
  cases h8 with | cons g8 h9 =>
  cases h9
  exact ⟨p, _, _, _, _, _, _, _, _, _, rfl, ht, g0, g1, g2, g3, g4, g5, g6, g7, g8⟩
theorem tf_no {α : Type} {l : List α} {i : Nat} {x : α} {f : α → Bool} (h : l[i]? = some x) (hf : f x = false) : (l.take (i + 1)).filter f = (l.take i).filter f := by
  rw [take_filter f h, hf]
  simp
theorem tf_yes {α : Type} {l : List α} {i : Nat} {x : α} {f : α → Bool} (h : l[i]? = some x) (hf : f x = true) : ((l.take (i + 1)).filter f).length = ((l.take i).filter f).length + 1 := by
  rw [take_filter f h, hf]
  simp
theorem oneS {α β : Type} (f : α → Str) (g : α → β) : ∀ {l : List α} {r : α}, (l.map f).Nodup → r ∈ l → l.filterMap (fun e => if decide (V.str (f e) = V.str (f r)) = true then some (g e) else none) = [g r]
  | [], _, _, h => by cases h
  | x :: l, r, nd, h => by
    rw [List.map_cons] at nd
    obtain ⟨n1, n2⟩ := List.nodup_cons.mp nd
    rcases List.mem_cons.mp h with e | h
    · subst e
      have hn : l.filterMap (fun e => if decide (V.str (f e) = V.str (f r)) = true then some (g e) else none) = [] := by
        rw [List.filterMap_eq_nil_iff]
        intro a ha
        refine if_neg fun z => n1 ?_
        rw [decide_eq_true_iff] at z
        rw [← V.str.inj z]
        exact List.mem_map_of_mem ha
      rw [List.filterMap_cons, if_pos (decide_eq_true rfl), hn]
    · have hx : (if decide (V.str (f x) = V.str (f r)) = true then some (g x) else none) = none := by
        refine if_neg fun z => n1 ?_
        rw [decide_eq_true_iff] at z
        rw [V.str.inj z]
        exact List.mem_map_of_mem h
      rw [List.filterMap_cons, hx]
      exact oneS f g n2 h
theorem fm_some {α β : Type} (f : α → β) (l : List α) : l.filterMap (fun e => some (f e)) = l.map f := by rw [← List.filterMap_eq_map]; rfl
/-! the digits of a script's cell -/
def Digs : List Int → List Int → Prop
  | [], [] => True
  | d :: ds, z :: zs => (0 ≤ d ∧ d < z) ∧ Digs ds zs
  | _, _ => False
theorem digs_snoc : ∀ {ds zs : List Int} {d z : Int}, Digs ds zs → 0 ≤ d → d < z → Digs (ds ++ [d]) (zs ++ [z])
  | [], [], _, _, _, h0, h1 => ⟨⟨h0, h1⟩, trivial⟩
  | _ :: _, _ :: _, _, _, h, h0, h1 => ⟨h.1, digs_snoc h.2 h0 h1⟩
theorem digs_len : ∀ {ds zs : List Int}, Digs ds zs → ds.length = zs.length
  | [], [], _ => rfl
  | _ :: ds, _ :: zs, h => by rw [List.length_cons, List.length_cons, digs_len h.2]
theorem digs1 {ds : List Int} {z : Int} (h : Digs ds [z]) : ∃ d, ds = [d] ∧ 0 ≤ d ∧ d < z := by
  match ds, h with
  | [d], h => exact ⟨d, rfl, h.1.1, h.1.2⟩
  | _ :: _ :: _, h => exact h.2.elim
theorem digs2 {ds : List Int} {z y : Int} (h : Digs ds [z, y]) : ∃ d e, ds = [d, e] ∧ (0 ≤ d ∧ d < z) ∧ (0 ≤ e ∧ e < y) := by
  match ds, h with
  | d :: es, h => obtain ⟨e, rfl, h1⟩ := digs1 h.2; exact ⟨d, e, rfl, h.1, h1⟩
theorem digs3 {ds : List Int} {z y x : Int} (h : Digs ds [z, y, x]) : ∃ d e f, ds = [d, e, f] ∧ (0 ≤ d ∧ d < z) ∧ (0 ≤ e ∧ e < y) ∧ (0 ≤ f ∧ f < x) := by
  match ds, h with
  | d :: es, h => obtain ⟨e, f, rfl, h1⟩ := digs2 h.2; exact ⟨d, e, f, rfl, h.1, h1⟩
theorem digs4 {ds : List Int} {z y x w : Int} (h : Digs ds [z, y, x, w]) : ∃ d e f g, ds = [d, e, f, g] ∧ (0 ≤ d ∧ d < z) ∧ (0 ≤ e ∧ e < y) ∧ (0 ≤ f ∧ f < x) ∧ (0 ≤ g ∧ g < w) := by
  match ds, h with
  | d :: es, h => obtain ⟨e, f, g, rfl, h1⟩ := digs3 h.2; exact ⟨d, e, f, g, rfl, h.1, h1⟩
theorem digs5 {ds : List Int} {z y x w v : Int} (h : Digs ds [z, y, x, w, v]) : ∃ d e f g k, ds = [d, e, f, g, k] ∧ (0 ≤ d ∧ d < z) ∧ (0 ≤ e ∧ e < y) ∧ (0 ≤ f ∧ f < x) ∧ (0 ≤ g ∧ g < w) ∧ (0 ≤ k ∧ k < v) := by
  match ds, h with
  | d :: es, h => obtain ⟨e, f, g, k, rfl, h1⟩ := digs4 h.2; exact ⟨d, e, f, g, k, rfl, h.1, h1⟩
theorem digs6 {ds : List Int} {z y x w v u : Int} (h : Digs ds [z, y, x, w, v, u]) : ∃ d e f g k l, ds = [d, e, f, g, k, l] ∧ (0 ≤ d ∧ d < z) ∧ (0 ≤ e ∧ e < y) ∧ (0 ≤ f ∧ f < x) ∧ (0 ≤ g ∧ g < w) ∧ (0 ≤ k ∧ k < v) ∧ (0 ≤ l ∧ l < u) := by
  match ds, h with
  | d :: es, h => obtain ⟨e, f, g, k, l, rfl, h1⟩ := digs5 h.2; exact ⟨d, e, f, g, k, l, rfl, h.1, h1⟩
theorem digs8 {ds : List Int} {z y x w v u t s : Int} (h : Digs ds [z, y, x, w, v, u, t, s]) : ∃ d e f g k l m n, ds = [d, e, f, g, k, l, m, n] ∧ (0 ≤ d ∧ d < z) ∧ (0 ≤ e ∧ e < y) ∧ (0 ≤ f ∧ f < x) ∧ (0 ≤ g ∧ g < w) ∧ (0 ≤ k ∧ k < v) ∧ (0 ≤ l ∧ l < u) ∧ (0 ≤ m ∧ m < t) ∧ (0 ≤ n ∧ n < s) := by
  match ds, h with
  | d :: e :: es, h => obtain ⟨f, g, k, l, m, n, rfl, h1⟩ := digs6 h.2.2; exact ⟨d, e, f, g, k, l, m, n, rfl, h.1, h.2.1, h1⟩
def sp_num (K : PySem.W.Frag) : Sp := fun vs H Q _ => ∃ (a : Addr) (ns : List Int) (k : Int), vs = [.ref a, .int k] ∧ SqL K H a (ns.map V.int) ∧ (0 ≤ k ∧ k ≤ 10000) ∧ ∀ n : Int, 0 ≤ n → Q (.int n) H
def sp_digits (K : PySem.W.Frag) : Sp := fun vs H Q _ => ∃ (a b : Addr) (ns zs : List Int) (k : Int), vs = [.ref a, .int k, .ref b] ∧ SqL K H a (ns.map V.int) ∧ (0 ≤ k ∧ k ≤ 10000) ∧ SqL K H b (zs.map V.int) ∧ zs.length ≤ 1000 ∧ (∀ z ∈ zs, 0 < z ∧ z < 1073741824) ∧
  ∀ (p : Addr) (H' : Hp) (ds : List Int), H p = none → Same H H' → H' p = some (.lst (ds.map V.int)) → Digs ds zs → Q (.ref p) H'
section
variable {P : Program} {w : World} {K : PySem.W.Frag} {mg : Str → Option Value} {base : Heap}
theorem ok__law_number (T : TX K mg) : FnOk P w K mg base CX0 1 T.a__law_number T.d__law_number ["script", "k"] (sp_num K) := by
  refine T.F__law_number.ok sc__law_number (fun vs H Q E h => ?_) (fun cdv A outer s H vs Q E hr h => ?_)
  · obtain ⟨a, ns, k, rfl, _⟩ := h
    rfl
  · obtain ⟨a, ns, k, rfl, hS, hk, q⟩ := h
    refine ⟨_, (pss_cons (ps_set (i := 2) sc__law_number.nd rfl (Or.inl rfl) (pv 1))
      (C8.pss_cut (ps_if (pt_cmpR op_lt (pv 1) (pe_callB call_len_seq (by rfl) T.n_len PySem.boot_len (pa_cons (pv 0) pa_nil)) (nomark _)) (pss_one (ps_set (i := 2) sc__law_number.nd rfl (Or.inl rfl) (pe_ix ix_list (pv 0) (pv 1) (fun _ _ => rfl)))) pss_nil)
      (pss_cons (ps_if (PW.pt (pw_or (pt_cmpR op_ge (pv 2) (pe_op op_pow pe_int pe_int) (nomark _)) (pw_or1 (pt_cmpR op_lt (pv 2) pe_int (nomark _))))) (pss_one (ps_ret (pe_callB call_abs (by rfl) T.n_abs (by decide +kernel) (pa_cons (pv 2) pa_nil)))) pss_nil)
      (pss_one (ps_ret (pe_op op_mod (pe_callTy call_int1 (by rfl) T.n_int (by decide +kernel) (pa_cons (pe_op op_mul (pe_op op_mod (pe_callTy call_int1 (by rfl) T.n_int (by decide +kernel) (pa_cons (pe_op op_mul (pe_op op_add (pe_op op_add (pv 2) (pe_op op_mul pe_int (pv 1))) pe_int) pe_int) pa_nil)) pe_int) pe_int) pa_nil)) pe_int)))))), ?_⟩
    refine ⟨_, rfl, fun σ' G => H = G ∧ ∃ c : Int, σ' = [some (.ref a), some (.int k), some (.int c)], ?_, ?_⟩
    · refine ⟨.int k, rfl, .ref a, rfl, a, _, rfl, .inl hS, _, _, rfl, rfl, _, rfl, ifd (fun hc => ?_) (fun hc => ?_)⟩
      · rw [List.length_map] at hc
        obtain ⟨m, rfl⟩ := Int.eq_ofNat_of_zero_le hk.1
        have hg : ns[m]? = some ns[m] := List.getElem?_eq_getElem (by omega)
        exact ⟨_, rfl, _, rfl, a, _, _, _, rfl, rfl, hS, at_map hg, rfl, _, rfl⟩
      · exact ⟨rfl, _, rfl⟩
    rintro σ' _ ⟨rfl, c, rfl⟩
    refine ⟨_, rfl, _, _, rfl, rfl, ⟨by decide, by decide, by decide⟩, _, _, rfl, rfl, _, rfl, ifd (fun hb => ?_) (fun hb => ?_)⟩
    · refine ⟨_, rfl, _, rfl, q _ ?_⟩
      split <;> omega
    · refine ⟨_, rfl, _, _, rfl, rfl, _, rfl, ifd (fun hb2 => ?_) (fun hb2 => ?_)⟩
      · refine ⟨_, rfl, _, rfl, q _ ?_⟩
        split <;> omega
      · refine ⟨_, rfl, _, rfl, _, _, rfl, rfl, .inl ⟨by decide, by decide⟩, _, _, rfl, rfl, _, _, rfl, rfl, _, _, rfl, rfl, .inr ⟨by decide, by decide⟩, .inl ⟨_, rfl, _, _, rfl, rfl, (by show (0 : Int) < _; decide), _, _, rfl, rfl, .inr ⟨by decide, by decide⟩, .inl ⟨_, rfl, _, _, rfl, rfl, (by show (0 : Int) < _; decide), q _ (Int.emod_nonneg _ (by decide))⟩⟩⟩
theorem ok__law_digits (T : TX K mg) : FnOk P w K mg base CX0 2 T.a__law_digits T.d__law_digits ["script", "k", "sizes"] (sp_digits K) := by
  refine T.F__law_digits.ok sc__law_digits (fun vs H Q E h => ?_) (fun cdv A outer s H vs Q E hr h => ?_)
  · obtain ⟨a, b, ns, zs, k, rfl, _⟩ := h
    rfl
  · obtain ⟨a, b, ns, zs, k, rfl, hS, hk, hB, hzl, hz, q⟩ := h
    refine ⟨_, (pss_cons (ps_set (i := 3) sc__law_digits.nd rfl (Or.inl rfl) (pe_call (ok__law_number T) (hr.mono (by decide)) (by rfl) T.g__law_number T.F__law_number.kp T.b__law_number .nil pass0 (pa_cons (pv 0) (pa_cons (pv 1) pa_nil))))
      (pss_cons (ps_set (i := 4) sc__law_digits.nd rfl (Or.inl rfl) (pe_lst pa_nil))
      (pss_cons (ps_for PassesOwn.never rfl (pi_list (pv 2)) (pg_name (i := 5) sc__law_digits.nd rfl (Or.inl rfl))
        (pss_cons (ps_expr (pe_bm PySem.F.plainAttrs_list PySem.F.slot_list_append PySem.F.type_list_append mt_append (pv 4) (pa_cons (pe_op op_mod (pe_callTy call_int1 (by rfl) T.n_int (by decide +kernel) (pa_cons (pv 3) pa_nil)) (pv 5)) pa_nil)))
        (pss_one (ps_set (i := 3) sc__law_digits.nd rfl (Or.inl rfl) (pe_op op_fdiv (pe_callTy call_int1 (by rfl) T.n_int (by decide +kernel) (pa_cons (pv 3) pa_nil)) (pv 5))))))
      (pss_one (ps_ret (pv 4)))))), ?_⟩
    refine ⟨_, rfl, _, rfl, a, ns, k, rfl, hS, hk, fun n hn => ?_⟩
    refine ⟨Nat.zero_le _, fun o ho => ?_⟩
    have s1 := same_upd (o := .lst []) ho
    refine ⟨_, rfl, b, rfl, ⟨_, s1.seq hB⟩, for_list (K := K) (a := b) (xs := zs.map V.int) (fun i σ H2 => ∃ (n : Int) (ds : List Int) (x5 : Option V), 0 ≤ n ∧ σ = [some (.ref a), some (.int k), some (.ref b), some (.int n), some (.ref o), x5] ∧ Same H H2 ∧ H2 o = some (.lst (ds.map V.int)) ∧ Digs ds (zs.take i))
      ⟨n, [], none, hn, rfl, s1, upd_same, trivial⟩ (fun i σ H2 _ ⟨_, _, _, _, _, h, _⟩ => h.seq hB) ?_ ?_⟩
    · rintro i x σ H2 hx ⟨n, ds, x5, hn, rfl, g1, g2, g3⟩
      obtain ⟨z, hzi, rfl⟩ := map_at hx
      have z0 := hz z (List.mem_of_getElem? hzi)
      have hl := digs_len g3
      rw [List.length_take] at hl
      refine ⟨_, rfl, .inl ⟨rfl, _, sql g2⟩, _, rfl, .inl ⟨_, rfl, _, rfl, _, _, rfl, rfl, z0.1, o, _, _, rfl, rfl, g2, szl (by rw [List.length_map]; omega), ?_⟩⟩
      refine ⟨_, rfl, .inl ⟨_, rfl, _, rfl, _, _, rfl, rfl, z0, ?_⟩⟩
      refine ⟨n / z, ds ++ [n % z], _, Int.ediv_nonneg hn (by omega), rfl, same_put g1 ho, ?_, ?_⟩
      · rw [upd_same, List.map_append]
        rfl
      · rw [take_more hzi]
        exact digs_snoc g3 (Int.emod_nonneg _ (by omega)) (Int.emod_lt_of_pos _ z0.1)
    · rintro σ H2 ⟨n, ds, x5, hn, rfl, g1, g2, g3⟩
      rw [List.length_map, List.take_length] at g3
      exact ⟨_, rfl, q o _ ds ho g1 g2 g3⟩
end
/-! texts of numbers, items of written lists -/
theorem slen_app (a b : Str) : (a ++ b).length = a.length + b.length := by
  show (a.cps ++ b.cps).size = a.cps.size + b.cps.size
  rw [Array.size_append]
theorem strN_len : ∀ n : Nat, n < 1101 → (Str.ofString (toString (n : Int))).length ≤ 8 := by decide +kernel
theorem strN_log : ∀ n : Nat, n < 1101 → ((n : Int).natAbs).log2 < 1920 := by decide +kernel
theorem strI {i : Int} (h : 0 ≤ i ∧ i ≤ 1100) : i.natAbs.log2 < 1920 ∧ (Str.ofString (toString i)).length ≤ 8 := by
  obtain ⟨n, rfl⟩ := Int.eq_ofNat_of_zero_le h.1
  exact ⟨strN_log n (by omega), strN_len n (by omega)⟩
theorem at_strs {zs : List Str} {i : Int} (h0 : 0 ≤ i) (h1 : i < zs.length) : ∃ z, z ∈ zs ∧ atI (zs.map V.str) i = some (.str z) := by
  obtain ⟨n, rfl⟩ := Int.eq_ofNat_of_zero_le h0
  have hn : n < zs.length := by omega
  exact ⟨zs[n], List.getElem_mem hn, at_map (List.getElem?_eq_getElem hn)⟩
theorem strX {a b : Str} (h : a.cps.toList = b.cps.toList) : a = b := by
  cases a; cases b
  simp only [Str.mk.injEq]
  exact Array.toList_inj.mp h
theorem ok_app (a b : Str) : PyData.strOk (a ++ b) = (PyData.strOk a && PyData.strOk b) := by
  show (a.cps ++ b.cps).all _ = _
  rw [Array.all_append]
  rfl
theorem ok_num : ∀ n : Nat, n < 111 → PyData.strOk (Str.ofString (toString (n : Int))) = true := by decide +kernel
theorem ok_numI {i : Int} (h : 0 ≤ i ∧ i ≤ 110) : PyData.strOk (Str.ofString (toString i)) = true := by
  obtain ⟨n, rfl⟩ := Int.eq_ofNat_of_zero_le h.1
  exact ok_num n (by omega)
theorem app_list (a b : Str) : (a ++ b).cps.toList = a.cps.toList ++ b.cps.toList := by
  show (a.cps ++ b.cps).toList = _
  rw [Array.toList_append]
/-! dicts whose keys are texts: what they hold, as a function -/
def isTxt (z : Str) : Value → Bool
  | .str y _ => y == z
  | _ => false
theorem vals_get : ∀ {xs : List V} {us : List Value} {i : Nat} {x : V}, Vals xs us → xs[i]? = some x → ∃ u, us[i]? = some u ∧ RelV x u
  | _, _, _, _, .nil, h => by simp at h
  | _, _, 0, _, .cons r _, h => ⟨_, rfl, by cases h; exact r⟩
  | _, _, i + 1, _, .cons _ t, h => by
    obtain ⟨u, e, r⟩ := vals_get (i := i) t (by simpa using h)
    exact ⟨u, by simpa using e, r⟩
theorem vals_drop : ∀ {xs : List V} {us : List Value} (i : Nat), Vals xs us → Vals (xs.eraseIdx i) (us.eraseIdx i)
  | _, _, _, .nil => .nil
  | _, _, 0, .cons _ t => t
  | _, _, i + 1, .cons r t => .cons r (vals_drop i t)
theorem txt_gives {z : Str} {t : Tok} : ∀ {zs : List Str} {us : List Value}, Vals (zs.map V.str) us → ∀ u ∈ us, MeetsSeq.EqGives u (.str z t) (isTxt z u)
  | [], _, .nil, _, h => by cases h
  | y :: zs, _, .cons r tl, u, h => by
    rcases List.mem_cons.mp h with e | e
    · obtain ⟨k, rfl⟩ := r
      subst e
      exact eqGives_str y z k t
    · exact txt_gives tl u e
theorem erase_str : ∀ (l : List Str) (j : Nat), (l.map V.str).eraseIdx j = (l.eraseIdx j).map V.str
  | [], _ => rfl
  | _ :: _, 0 => rfl
  | y :: l, j + 1 => congrArg (V.str y :: ·) (erase_str l j)
def rRemS : V → List V → Hp → VK → Prop := fun x as H Q => ∃ (l : Addr) (zs : List Str) (z : Str), x = .ref l ∧ as = [.str z] ∧ H l = some (.lst (zs.map V.str)) ∧ z ∈ zs ∧ Q .non (upd H l (.lst ((zs.erase z).map V.str)))
theorem mt_removeS {X : Cx} : MtR X "list.remove" rRemS := by
  intro pins s σ H x as v us Q I rx ra ⟨l, zs, z, e1, e2, hH, hz, q⟩
  subst e1; subst e2
  cases rx
  obtain ⟨u, rfl, t, rfl⟩ := ra.one
  obtain ⟨hn, its, n, r, hl, e⟩ := I.lstM hH
  rw [List.length_map] at hl hn
  have hj : zs.idxOf z < zs.length := List.idxOf_lt_length_iff.mpr hz
  have hg : zs[zs.idxOf z]? = some z := by rw [List.getElem?_eq_getElem hj, List.getElem_idxOf]
  have at_ : ∀ (m : Nat) (y : Str) (hm : m < its.toArray.size), zs[m]? = some y → isTxt z its.toArray[m] = (y == z) := fun m y hm hy => by
    obtain ⟨u, hu, k, rfl⟩ := vals_get r (show (zs.map V.str)[m]? = some (.str y) by rw [List.getElem?_map, hy]; rfl)
    obtain ⟨h1, h2⟩ := List.getElem?_eq_some_iff.mp hu
    have h3 : its.toArray[m] = .str y k := by simpa using h2
    rw [h3]
    rfl
  have hjl : zs.idxOf z < its.toArray.size := by rw [List.size_toArray]; omega
  have run := MeetsSeq.list_remove l its.toArray n (.str z t) (isTxt z) (fun y hy => txt_gives r y (by simpa using hy)) (zs.idxOf z) hjl (by rw [at_ _ _ hjl hg]; exact beq_self_eq_true z) (fun m hm hmj => by
    have hmz : m < zs.length := by omega
    rw [at_ m _ hm (List.getElem?_eq_getElem hmz)]
    exact beq_eq_false_iff_ne.mpr fun h2 => by
      have h3 := List.not_of_lt_findIdx (xs := zs) (p := fun y => y == z) (i := m) hmj
      simp [h2] at h3) (by rw [List.size_toArray]; omega)
  refine call_meets PySem.F.slot_list_remove ⟨_, e, rfl⟩ PySem.F.entry_list_remove (PySem.F.args_list_remove_2 _ _) run ⟨e, ?_⟩
  have hE : (zs.map V.str).eraseIdx (zs.idxOf z) = (zs.erase z).map V.str := by
    rw [List.erase_eq_eraseIdx_of_idxOf (i := zs.idxOf z) rfl]
    exact erase_str zs _
  have rr := vals_drop (zs.idxOf z) r
  rw [hE] at rr
  refine ⟨.non, _, I.lset (its' := its.eraseIdx (zs.idxOf z)) (t' := s.toks) hH e ?_ rr ?_, rfl, q⟩
  · exact (List.eraseIdxIfInBounds_toArray ..).trans rfl
  · rw [List.length_map]
    exact Nat.le_trans (List.length_erase_le ..) hn
/-- x *= y, x from -2^64 to 2^64 -/
theorem ip_mul {X : Cx} : PIp X .Mult (fun x y H Q => ∃ i j : Int, x = .int i ∧ y = .int j ∧ (-(2 ^ 64) < i ∧ i < 2 ^ 64) ∧ Q (.int (i * j)) H) := by
  intro pins s σ H x y v u Q I r1 r2 ⟨i, j, e1, e2, ⟨h1, h2⟩, q⟩
  subst e1; subst e2
  obtain ⟨t, rfl⟩ := r1
  obtain ⟨t', rfl⟩ := r2
  exact imul_int ⟨.int _, H, I.tok _, ⟨_, rfl⟩, q⟩ (.of_left (intBits_le_64 h1 h2))
theorem nd_len {α : Type} [DecidableEq α] : ∀ {l U : List α}, l.Nodup → (∀ x ∈ l, x ∈ U) → l.length ≤ U.length
  | [], _, _, _ => Nat.zero_le _
  | a :: l, U, nd, h => by
    have ha := h a List.mem_cons_self
    have n2 := List.nodup_cons.mp nd
    have := nd_len (l := l) (U := U.erase a) n2.2 fun x hx => (List.mem_erase_of_ne (fun z => n2.1 (by rw [← z]; exact hx))).mpr (h x (List.mem_cons_of_mem _ hx))
    rw [List.length_erase_of_mem ha] at this
    have h0 : 0 < U.length := List.length_pos_of_mem ha
    simp only [List.length_cons]
    omega
structure DS {α : Type} (U : List Str) (g : α → V) (kvs : List (Key × V)) (f : Str → Option α) : Prop where
  nd : (kvs.map (·.1)).Nodup
  ks : ∀ kv ∈ kvs, ∃ s ∈ U, kv.1 = Sum.inr s
  vl : ∀ s, valV kvs (Sum.inr s) = (f s).map g
def keyS : Key → Str
  | .inr s => s
  | _ => ""
section
variable {α : Type} {U : List Str} {g : α → V} {kvs : List (Key × V)} {f : Str → Option α}
def setF (f : Str → Option α) (k : Str) (v : α) : Str → Option α := fun s => if s = k then some v else f s
def unsF (f : Str → Option α) (k : Str) : Str → Option α := fun s => if s = k then none else f s
theorem ds_nil : DS U g [] fun _ => none := ⟨List.nodup_nil, (fun _ h => by cases h), fun _ => rfl⟩
theorem keys_map (h : DS U g kvs f) : kvs.map (·.1) = (kvs.map fun kv => keyS kv.1).map Sum.inr := by
  rw [List.map_map]
  apply List.map_congr_left
  intro kv hm
  obtain ⟨s, _, e⟩ := h.ks kv hm
  show kv.1 = Sum.inr (keyS kv.1)
  rw [e]
  rfl
theorem keys_nd (h : DS U g kvs f) : (kvs.map fun kv => keyS kv.1).Nodup := by
  have := h.nd
  rw [keys_map h] at this
  exact List.Pairwise.of_map Sum.inr (fun a b hab z => hab (by rw [z])) this
theorem keys_in (h : DS U g kvs f) : ∀ s ∈ (kvs.map fun kv => keyS kv.1), s ∈ U := fun s hs => by
  obtain ⟨kv, hm, rfl⟩ := List.mem_map.mp hs
  obtain ⟨s, hu, e⟩ := h.ks kv hm
  rw [e]
  exact hu
theorem ds_len (h : DS U g kvs f) : kvs.length ≤ U.length := by
  have := nd_len (keys_nd h) (keys_in h)
  rwa [List.length_map] at this
theorem key_iff (h : DS U g kvs f) (s : Str) : s ∈ (kvs.map fun kv => keyS kv.1) ↔ (f s).isSome = true := by
  have e : (valV kvs (Sum.inr s)).isSome = (f s).isSome := by rw [h.vl]; cases f s <;> rfl
  rw [← e, ← valV_any]
  constructor
  · intro hs
    obtain ⟨kv, hm, rfl⟩ := List.mem_map.mp hs
    obtain ⟨s, _, e⟩ := h.ks kv hm
    exact List.any_eq_true.mpr ⟨kv, hm, by rw [e]; simp [keyS]⟩
  · intro hs
    obtain ⟨kv, hm, e⟩ := List.any_eq_true.mp hs
    exact List.mem_map.mpr ⟨kv, hm, by rw [of_decide_eq_true e]; rfl⟩
theorem ds_put (h : DS U g kvs f) {k : Str} (hk : k ∈ U) (v : α) : DS U g (putK kvs (Sum.inr k) (g v)) (setF f k v) := by
  refine ⟨?_, ?_, fun s => ?_⟩
  · unfold putK
    split
    · rw [List.map_map]
      have : ((fun x => x.1) ∘ fun kv : Key × V => if kv.1 = Sum.inr k then (kv.1, g v) else kv) = fun x => x.1 := by
        funext kv
        simp only [Function.comp]
        split <;> rfl
      rw [this]
      exact h.nd
    · next hn =>
      rw [List.map_append]
      refine List.nodup_append.mpr ⟨h.nd, by simp, fun x hx y hy z => hn ?_⟩
      simp only [List.map_cons, List.map_nil, List.mem_cons, List.not_mem_nil, or_false] at hy
      obtain ⟨kv, hm, e⟩ := List.mem_map.mp hx
      exact List.any_eq_true.mpr ⟨kv, hm, decide_eq_true (by rw [e, z, hy])⟩
  · intro kv hm
    unfold putK at hm
    split at hm
    · obtain ⟨kv', hm', e⟩ := List.mem_map.mp hm
      obtain ⟨s, hu, e'⟩ := h.ks kv' hm'
      refine ⟨s, hu, ?_⟩
      rw [← e]
      split <;> exact e'
    · rcases List.mem_append.mp hm with hm | hm
      · exact h.ks kv hm
      · rw [List.mem_singleton] at hm
        exact ⟨k, hk, by rw [hm]⟩
  · rw [valV_put]
    unfold setF
    by_cases e : s = k
    · rw [e, if_pos rfl, if_pos rfl]
      rfl
    · rw [if_neg (fun z => e (Sum.inr.inj z)), if_neg e]
      exact h.vl s
theorem val_drop (k j : Key) : ∀ kvs : List (Key × V), valV (dropK kvs k) j = if j = k then none else valV kvs j
  | [] => by simp [dropK, valV_nil]
  | p :: r => by
    have ih := val_drop k j r
    unfold dropK at ih ⊢
    rw [List.filter_cons]
    by_cases hp : p.1 = k
    · rw [if_neg (by simp [hp]), ih]
      split
      · rfl
      · next hj => rw [valV_neg (fun z => hj (by rw [← z, hp]))]
    · rw [if_pos (by simp [hp])]
      by_cases hj : p.1 = j
      · rw [valV_pos hj, valV_pos hj, if_neg (fun z => hp (by rw [hj, z]))]
      · rw [valV_neg hj, valV_neg hj, ih]
theorem ds_drop (h : DS U g kvs f) (k : Str) : DS U g (dropK kvs (Sum.inr k)) (unsF f k) := by
  refine ⟨(List.filter_sublist.map _).nodup h.nd, fun kv hm => h.ks kv (List.mem_filter.mp hm).1, fun s => ?_⟩
  rw [val_drop]
  unfold unsF
  by_cases e : s = k
  · rw [e, if_pos rfl, if_pos rfl]
    rfl
  · rw [if_neg (fun z => e (Sum.inr.inj z)), if_neg e]
    exact h.vl s
end
theorem inV_str (k : Str) : ∀ zs : List Str, inV (.str k) (zs.map V.str) = decide (k ∈ zs)
  | [] => rfl
  | z :: zs => by
    have ih := inV_str k zs
    unfold inV at ih ⊢
    rw [List.map_cons, List.any_cons, ih]
    show ((z == k) || decide (k ∈ zs)) = decide (k ∈ z :: zs)
    by_cases e : k = z
    · subst e
      rw [beq_self_eq_true, Bool.true_or, decide_eq_true List.mem_cons_self]
    · rw [beq_eq_false_iff_ne.mpr (Ne.symm e), Bool.false_or, Bool.eq_iff_iff, decide_eq_true_iff, decide_eq_true_iff, List.mem_cons]
      exact ⟨.inr, fun h => h.resolve_left e⟩
theorem flat_strs : ∀ zs : List Str, (zs.map V.str).all flatV = true
  | [] => rfl
  | _ :: zs => flat_strs zs
def DAt {α : Type} (U : List Str) (g : α → V) (H : Hp) (d : Addr) (f : Str → Option α) : Prop := ∃ kvs, H d = some (.dK kvs) ∧ DS U g kvs f
/-- all but these stand as they stood -/
def Fr (L : List Addr) (H H' : Hp) : Prop := ∀ x o, H x = some o → x ∉ L → H' x = some o
theorem Fr.refl (L : List Addr) (H : Hp) : Fr L H H := fun _ _ h _ => h
theorem Fr.trans {L : List Addr} {H H' H2 : Hp} (h : Fr L H H') (g : Fr L H' H2) : Fr L H H2 := fun x o e n => g x o (h x o e n) n
theorem Fr.of_same {L : List Addr} {H H' : Hp} (h : Same H H') : Fr L H H' := fun x o e _ => h x o e
theorem Fr.up {L : List Addr} {H H' : Hp} {a : Addr} {o : HO} (h : Fr L H H') (ha : a ∈ L) : Fr L H (upd H' a o) := fun x u e n => by
  rw [upd_ne (fun z => n (by rw [z]; exact ha))]
  exact h x u e n
theorem DAt.same {α : Type} {U : List Str} {g : α → V} {H H' : Hp} {d : Addr} {f : Str → Option α} (h : DAt U g H d f) (s : Same H H') : DAt U g H' d f := by
  obtain ⟨kvs, e, r⟩ := h
  exact ⟨kvs, s _ _ e, r⟩
/-- the names that stand in a dict, in order -/
def Ord (f : Str → Bool) (ys : List Str) : Prop := ys.Nodup ∧ sortedS ys = true ∧ ∀ s, s ∈ ys ↔ f s = true
theorem setF_same {α : Type} (f : Str → Option α) (k : Str) (v : α) : setF f k v k = some v := if_pos rfl
theorem setF_ne {α : Type} {f : Str → Option α} {k x : Str} {v : α} (h : x ≠ k) : setF f k v x = f x := if_neg h
theorem unsF_same {α : Type} (f : Str → Option α) (k : Str) : unsF f k k = none := if_pos rfl
theorem unsF_ne {α : Type} {f : Str → Option α} {k x : Str} (h : x ≠ k) : unsF f k x = f x := if_neg h
theorem unsF_none {α : Type} {f : Str → Option α} {k : Str} (h : f k = none) : unsF f k = f := by
  funext s
  unfold unsF
  split
  · next e => rw [e, h]
  · rfl
theorem putF_le {f : Str} {v : V} {fs : List (Str × V)} {n : Nat} (h : fs.length ≤ n) : (putF f v fs).length ≤ n + 1 := by
  induction fs generalizing n with
  | nil => simp [putF]
  | cons p r ih =>
    unfold putF
    split
    · simp only [List.length_cons] at h ⊢
      omega
    · simp only [List.length_cons] at h ⊢
      have := ih (n := n - 1) (by omega)
      omega
theorem putF_lt {fs : List (Str × V)} {n : Nat} (h : fs.length ≤ n) (g : n < 1000) : fs.length < 1000 := by omega
/-! texts in order -/
def leS (x y : Str) : Prop := x.cps.toList ≤ y.cps.toList
theorem leS_of {x y : Str} (h : Spec.ltCps y.cps.toList x.cps.toList = false) : leS x y := by
  rw [ltCps_eq, decide_eq_false_iff_not] at h
  exact List.not_lt.mp h
theorem leS_trans {x y z : Str} (h : leS x y) (g : leS y z) : leS x z := List.le_trans h g
theorem str_ext2 {a b : Str} (h : a.cps.toList = b.cps.toList) : a = b := by
  cases a; cases b
  simp only [Str.mk.injEq]
  exact Array.toList_inj.mp h
theorem rising_pw : ∀ {l : List Str} {p : Str}, risingS p l = true → (p :: l).Pairwise leS
  | [], p, _ => List.pairwise_singleton _ _
  | x :: r, p, h => by
    unfold risingS at h
    rw [Bool.and_eq_true, Bool.not_eq_true'] at h
    have h1 := leS_of h.1
    have ih := rising_pw (l := r) (p := x) h.2
    refine List.pairwise_cons.mpr ⟨fun y hy => ?_, ih⟩
    rcases List.mem_cons.mp hy with e | hy
    · rw [e]; exact h1
    · exact leS_trans h1 ((List.pairwise_cons.mp ih).1 y hy)
theorem sorted_pw : ∀ {l : List Str}, sortedS l = true → l.Pairwise leS
  | [], _ => .nil
  | _ :: _, h => rising_pw h
theorem pw_uniq {a b : List Str} (h : a.Pairwise leS) (g : b.Pairwise leS) (p : a.Perm b) : a = b :=
  p.eq_of_pairwise (fun x y _ _ h1 h2 => str_ext2 (List.le_antisymm h1 h2)) h g
theorem nd_perm {a b : List Str} (na : a.Nodup) (nb : b.Nodup) (h : ∀ x, x ∈ a ↔ x ∈ b) : a.Perm b := (List.perm_ext_iff_of_nodup na nb).mpr h
theorem ord_uniq {f : Str → Bool} {a b : List Str} (h : Ord f a) (g : Ord f b) : a = b :=
  pw_uniq (sorted_pw h.2.1) (sorted_pw g.2.1) (nd_perm h.1 g.1 fun x => by rw [h.2.2, g.2.2])
/-- what is no list and no tuple -/
def NoSeq (H : Hp) (L : List Addr) : Prop := ∀ x ∈ L, ∀ u, Rd H x u → (∀ xs, u ≠ .lst xs) ∧ ∀ xs, u ≠ .tup xs
theorem sql_fr {K : PySem.W.Frag} {L : List Addr} {H H' : Hp} {a : Addr} {xs : List V} (n : NoSeq H L) (f : Fr L H H') (h : SqL K H a xs) : SqL K H' a xs := by
  rcases h with (h | ⟨o, h⟩) | h
  · exact .inl (.inl (f _ _ h fun z => (n a z _ (.inl h)).1 xs rfl))
  · exact .inl (.inr ⟨o, f _ _ h fun z => (n a z _ (.inr ⟨o, h⟩)).1 xs rfl⟩)
  · exact .inr h
theorem sqt_fr {K : PySem.W.Frag} {L : List Addr} {H H' : Hp} {a : Addr} {xs : List V} (n : NoSeq H L) (f : Fr L H H') (h : SqT K H a xs) : SqT K H' a xs := by
  rcases h with (h | ⟨o, h⟩) | h
  · exact .inl (.inl (f _ _ h fun z => (n a z _ (.inl h)).2 xs rfl))
  · exact .inl (.inr ⟨o, f _ _ h fun z => (n a z _ (.inr ⟨o, h⟩)).2 xs rfl⟩)
  · exact .inr h
mutual
theorem dp_fr {K : PySem.W.Frag} {L : List Addr} {H H' : Hp} (n : NoSeq H L) (f : Fr L H H') : ∀ (d : PyData) {v : V}, Dp K H v d → Dp K H' v d
  | _, _, .non => .non
  | _, _, .bl b => .bl b
  | _, _, .int i => .int i
  | _, _, .str x => .str x
  | .list ds, _, .lst h a => .lst (sql_fr n f h) (dpa_fr n f ds a)
  | .tuple ds, _, .tup h a => .tup (sqt_fr n f h) (dpa_fr n f ds a)
theorem dpa_fr {K : PySem.W.Frag} {L : List Addr} {H H' : Hp} (n : NoSeq H L) (f : Fr L H H') : ∀ (ds : List PyData) {vs : List V}, DpAll K H vs ds → DpAll K H' vs ds
  | [], _, .nil => .nil
  | d :: ds, _, .cons h a => .cons (dp_fr n f d h) (dpa_fr n f ds a)
end
/-! order of data: <, min, max, sorted -/
def rLtD (K : PySem.W.Frag) : R2 := fun x y H Q => ∃ d e, Dp K H x d ∧ Dp K H y e ∧ PySem.W.alike d e = true ∧ d ≠ .none ∧ d.depth ≤ 32 ∧ Q (.bl (PySem.W.dataLt d e)) H
theorem vals_gete : ∀ {xs : List V} {us : List Value} {i : Nat} {u : Value} {x : V}, Vals xs us → us[i]? = some u → xs[i]? = some x → RelV x u
  | _, _, _, _, _, .nil, h, _ => by simp at h
  | _, _, 0, _, _, .cons r _, h, g => by cases h; cases g; exact r
  | _, _, i + 1, _, _, .cons _ t, h, g => vals_gete (i := i) t (by simpa using h) (by simpa using g)
section
variable {X : Cx}
theorem op_ltD (hu : X.A.units + 64 < cLine) : OpR X (compareOp .Lt) (rLtD X.K) := by
  intro pins s σ H x y v u Q I rx ry h
  obtain ⟨d, e, hd, he, ha, hn, hdp, q⟩ := h
  obtain ⟨as, r1⟩ := Dp.reads I d x v hd rx
  obtain ⟨bs, r2⟩ := Dp.reads I e y u he ry
  exact PySem.W.lt_data r1 r2 ha hn (by omega) ⟨.bl _, H, I, rfl, q⟩
theorem dp_reads_one {pins : List (Addr × Obj)} {σ : L2.St} {H : Hp} {s : Shared} (I : Inv X pins σ H s) {xs : List V} {ds : List PyData} {us : List Value} (h : DpAll X.K H xs ds) (r : Vals xs us) {i : Nat} {u : Value} (hu : us[i]? = some u) :
    ∃ x d, xs[i]? = some x ∧ ds[i]? = some d ∧ RelV x u ∧ Dp X.K H x d ∧ ∃ as, Reads s.heap u d as := by
  have hl := r.length
  have hi := (List.getElem?_eq_some_iff.mp hu).1
  have hx : xs[i]? = some xs[i] := List.getElem?_eq_getElem (by omega)
  obtain ⟨d, hd, hdp⟩ := dpa_at h hx
  have ru : RelV xs[i] u := vals_gete r hu hx
  obtain ⟨as, hr⟩ := Dp.reads I d _ u hdp ru
  exact ⟨_, d, hx, hd, ru, hdp, as, hr⟩
/-- min of a list of data -/
def rMinD (K : PySem.W.Frag) : List V → Hp → VK → Prop := fun vs H Q => ∃ (a : Addr) (xs : List V) (x : PyData) (ds : List PyData), vs = [.ref a] ∧ SqL K H a xs ∧ DpAll K H xs (x :: ds) ∧ PySem.W.AlikeAll (x :: ds) ∧ PyData.depthAll (x :: ds) ≤ 32 ∧
  ∀ v, Dp K H v (PySem.W.minD x ds) → Q v H
theorem cr_minD (hc : X.calm = true) (hu : X.A.units + 64 < cLine) : CallR X (.builtin "min") (rMinD X.K) := by
  intro pins s σ H vs us Q I r h
  obtain ⟨a, xs, x, ds, rfl, hs, hx, ha, hdp, q⟩ := h
  obtain ⟨its, rv, hl, _⟩ := I.list hs
  rw [Vals.ref1 r]
  obtain ⟨as, hr⟩ := Dp.readsAll I _ _ _ hx rv
  refine PySem.W.min_list_data (I.ok.hd hc) hl.isList (by simpa using hr) ha (by omega) fun i v h' tk bs hv rv' hk => ?_
  obtain ⟨y, d, hy, hd, ry, hD, cs, rd⟩ := dp_reads_one I hx rv (u := v) (i := i) (by simpa using hv)
  have hm : PySem.W.minD x ds ∈ x :: ds := by
    have go : ∀ (l : List PyData) (z : PyData), l.foldl (fun a y => if PySem.W.dataLt y a then y else a) z ∈ z :: l := by
      intro l
      induction l with
      | nil => intro z; exact List.mem_cons_self
      | cons b l ih =>
        intro z
        rw [List.foldl_cons]
        have := ih (if PySem.W.dataLt b z then b else z)
        rcases List.mem_cons.mp this with e | e
        · rw [e]
          split
          · exact List.mem_cons_of_mem _ List.mem_cons_self
          · exact List.mem_cons_self
        · exact List.mem_cons_of_mem _ (List.mem_cons_of_mem _ e)
    exact go ds x
  have e : d = PySem.W.minD x ds := PySem.W.alike_unique d _ v cs bs (ha.1 d (List.mem_of_getElem? hd) _ hm) (PySem.W.reads_keeps hk rd) rv'
  rw [e] at hD
  exact ⟨y, H, I.kept hk, ry, q y hD⟩
/-- sorted of a list of data -/
def leD (d e : PyData) : Bool := !PySem.W.dataLt e d
def rSortedD (K : PySem.W.Frag) : List V → Hp → VK → Prop := fun vs H Q => ∃ (a : Addr) (xs : List V) (ds : List PyData), vs = [.ref a] ∧ SqL K H a xs ∧ DpAll K H xs ds ∧ PySem.W.AllAlike ds ∧ PySem.W.Sortable ds ∧ (∀ d ∈ ds, d.depth ≤ 32) ∧
  ∀ ys p, H p = none → DpAll K H ys (ds.mergeSort leD) → (∀ y ∈ ys, y ∈ xs) → Q (.ref p) (upd H p (.lst ys))
theorem each_zip {R : Value → V × PyData → Prop} : ∀ {us : List Value} {bs : List (V × PyData)}, PySem.W.EachIs R us bs → (∀ u b, R u b → RelV b.1 u) → Vals (bs.map (·.1)) us
  | _, _, .nil, _ => .nil
  | _, _, .cons h t, k => .cons (k _ _ h) (each_zip t k)
theorem zip_dpa {K : PySem.W.Frag} {H : Hp} : ∀ {bs : List (V × PyData)}, (∀ b ∈ bs, Dp K H b.1 b.2) → DpAll K H (bs.map (·.1)) (bs.map (·.2))
  | [], _ => .nil
  | b :: bs, h => .cons (h b List.mem_cons_self) (zip_dpa fun c hc => h c (List.mem_cons_of_mem _ hc))
theorem dpa_zip {K : PySem.W.Frag} {H : Hp} : ∀ {xs : List V} {ds : List PyData}, DpAll K H xs ds → ∀ b ∈ xs.zip ds, Dp K H b.1 b.2
  | _, _, .nil, _, h => by cases h
  | _, _, .cons h t, b, hb => by
    rcases List.mem_cons.mp hb with e | e
    · rw [e]; exact h
    · exact dpa_zip t b e
theorem each_of {pins : List (Addr × Obj)} {σ : L2.St} {H : Hp} {s : Shared} (I : Inv X pins σ H s) : ∀ {xs : List V} {ds : List PyData} {us : List Value}, DpAll X.K H xs ds → Vals xs us →
    PySem.W.EachIs (fun u b => RelV b.1 u) us (xs.zip ds) ∧ PySem.W.EachIs (fun v (b : V × PyData) => ∃ as, Reads s.heap v b.2 as) us (xs.zip ds)
  | _, _, _, .nil, .nil => ⟨.nil, .nil⟩
  | _, _, _, .cons h t, .cons r rs => by
    obtain ⟨h1, h2⟩ := each_of I t rs
    exact ⟨.cons r h1, .cons (Dp.reads I _ _ _ h r) h2⟩
theorem cr_sortedD (hu : X.A.units + 64 < cLine) : CallR X (.builtin "sorted") (rSortedD X.K) := by
  intro pins s σ H vs us Q I r h
  obtain ⟨a, xs, ds, rfl, hs, hx, hal, hso, hdp, q⟩ := h
  obtain ⟨its, rv, hl, hz⟩ := I.list hs
  rw [Vals.ref1 r]
  obtain ⟨e1, e2⟩ := each_of I hx rv
  have hlen : xs.length = ds.length := dpa_len hx
  have hsnd : (xs.zip ds).map (·.2) = ds := List.map_snd_zip (by omega)
  have hfst : (xs.zip ds).map (·.1) = xs := List.map_fst_zip (by omega)
  refine PySem.W.sorted_data (bs := xs.zip ds) (enc := (·.2)) hl.isList e1 e2 (by rw [hsnd]; exact hal) (by rw [hsnd]; exact hso) (by rw [List.length_zip]; omega) (fun b hb => ?_) fun out ho he => ?_
  · have := hdp b.2 (by rw [← hsnd]; exact List.mem_map_of_mem hb)
    omega
  · have hmem : ∀ b ∈ (xs.zip ds).mergeSort (PySem.W.dataLe false (·.2)), b ∈ xs.zip ds := fun b hb => (List.mergeSort_perm _ _).mem_iff.mp hb
    have hv : Vals (((xs.zip ds).mergeSort (PySem.W.dataLe false (·.2))).map (·.1)) out := each_zip he fun _ _ h => h
    have hD := zip_dpa fun b hb => dpa_zip hx b (hmem b hb)
    have hsm : ((xs.zip ds).mergeSort (PySem.W.dataLe false (·.2))).map (·.2) = ds.mergeSort leD := by
      have hm := PySem.W.sort_maps (f := fun b : V × PyData => b.2) (l := xs.zip ds) (r := PySem.W.dataLe false (fun b : V × PyData => b.2)) (s := leD) (fun a _ b _ => rfl)
      rw [hsnd] at hm
      exact hm
    rw [hsm] at hD
    obtain ⟨ep, hat⟩ := PyProof.Rows.sortedAll_at s.heap its (List.toArray out)
    have hn : H (s.heap.objs.size + 1) = none := I.hok.fresh (Nat.le_succ _)
    refine ⟨.ref _, upd H (s.heap.objs.size + 1) (.lst (((xs.zip ds).mergeSort (PySem.W.dataLe false (·.2))).map (·.1))), I.laid (t' := s.toks) (fun _ _ => PyProof.Rows.sortedAll_old) (Nat.le_succ _) ⟨?_, out, ep, hv, hat⟩, rfl, q _ _ hn hD fun y hy => ?_⟩
    · rw [List.length_map, List.length_mergeSort, List.length_zip]
      omega
    · obtain ⟨b, hb, rfl⟩ := List.mem_map.mp hy
      exact (List.of_mem_zip (hmem b hb)).1
end
/-- what sorting gives: the same, in order -/
theorem sortD_perm (ds : List PyData) : (ds.mergeSort leD).Perm ds := List.mergeSort_perm _ _
abbrev IM := Str → Option Int
def U31 : List Str := (List.range 31).map fun (i : Nat) => Str.ofString "s" ++ Str.ofString (toString (i : Int)) ++ Str.ofString "/0"
theorem u31_len : U31.length ≤ 31 := by decide +kernel
structure RAt (C : Addr) (H : Hp) (p ab : Addr) (f : IM) : Prop where
  ob : ∃ dx, H p = some (.ins C dx (fl_Runs (.ref ab)))
  hb : DAt U31 V.int H ab f
theorem RAt.same {C : Addr} {H H' : Hp} {p ab : Addr} {f : IM} (h : RAt C H p ab f) (s : Same H H') : RAt C H' p ab f := by
  obtain ⟨dx, ob⟩ := h.ob
  exact ⟨⟨dx, s _ _ ob⟩, h.hb.same s⟩
theorem RAt.noseq {C : Addr} {H : Hp} {p ab : Addr} {f : IM} (h : RAt C H p ab f) : NoSeq H [p, ab] := by
  obtain ⟨⟨dx, ob⟩, ⟨k, e, d⟩⟩ := h
  intro x hx u hu
  have one : ∀ o, H x = some o → (∀ xs, o ≠ .lst xs) → (∀ xs, o ≠ .tup xs) → (∀ w o', o ≠ .frz w o') → (∀ xs, u ≠ .lst xs) ∧ ∀ xs, u ≠ .tup xs := fun o ho h1 h2 h3 => by
    rcases hu with hu | ⟨w, hu⟩
    · rw [ho] at hu; cases hu; exact ⟨h1, h2⟩
    · rw [ho] at hu; cases hu; exact absurd rfl (h3 _ _)
  simp only [List.mem_cons, List.not_mem_nil, or_false] at hx
  rcases hx with rfl | rfl
  · exact one _ ob (fun _ z => by cases z) (fun _ z => by cases z) (fun _ _ z => by cases z)
  · exact one _ e (fun _ z => by cases z) (fun _ z => by cases z) (fun _ _ z => by cases z)
structure T4 where
  nm : Str
  bn : Int
  rv : Int
  tx : Str
  sz : Int
  st : Str
  sp : Int
  nd : Str
  lf : Int
def T4.v (t : T4) : PyData := .tuple [.int 3, .str t.tx, .int t.sz, .str t.st, .int t.sp, .str t.nd, .int t.lf, .str ""]
def T4.d (t : T4) : PyData := .tuple [.str t.nm, .int t.bn, .int t.rv, t.v]
inductive E7 where
  | node (n : Str) (a b lf : Int)
  | task (t : T4)
def E7.d : E7 → PyData
  | .node n a b lf => .tuple [.str "node", .str n, .int a, .int b, .tuple [.int 9, .int 0, .int lf, .int 0, .str ""]]
  | .task t => .tuple [.str "task", .str t.nm, .int t.bn, .int t.rv, t.v]
def okT (t : T4) : Prop := t.nm ∈ U31 ∧ PyData.strOk t.nm = true ∧ PyData.strOk t.tx = true ∧ PyData.strOk t.st = true ∧ PyData.strOk t.nd = true
def ok7 : E7 → Prop
  | .node n _ _ _ => PyData.strOk n = true
  | .task t => okT t
def E7.nm : E7 → Str
  | .node n _ _ _ => n
  | .task t => t.nm
def E7.bn : E7 → Int
  | .node _ a _ _ => a
  | .task t => t.bn
def taskOf : E7 → Option T4
  | .task t => some t
  | _ => none
def mineT (nd : Str) (lf : Int) (t : T4) : Bool := decide (V.str t.nd = V.str nd) && decide (V.int t.lf = V.int lf)
def sel (es : List E7) (nd : Str) (lf : Int) : List T4 := (es.filterMap taskOf).filter (mineT nd lf)
def leT (a b : T4) : Bool := leD a.d b.d
def srt (es : List E7) (nd : Str) (lf : Int) : List T4 := (sel es nd lf).mergeSort leT
theorem t4_alike (ts : List T4) : PySem.W.AllAlike (ts.map T4.d) := PySem.W.AllAlike.of fun _ _ => rfl
theorem t4_sortable (ts : List T4) : PySem.W.Sortable (ts.map T4.d) := PySem.W.Sortable.tuples fun _ => ⟨_, _, rfl⟩
theorem t4_depth (ts : List T4) : ∀ d ∈ ts.map T4.d, d.depth ≤ 32 := fun d hd => by
  obtain ⟨r, _, rfl⟩ := List.mem_map.mp hd
  simp [T4.d, T4.v, PyData.depth, PyData.depthAll]
theorem t4_sort (ts : List T4) : (ts.map T4.d).mergeSort leD = (ts.mergeSort leT).map T4.d := (PySem.W.sort_maps T4.d fun _ _ _ _ => rfl).symm
def placed (st : Str) : Bool := inV (.str st) [.str "bound", .str "running"]
def goB (f : IM) (cf : List Int) (t : T4) : Bool := decide (V.str t.st = V.str "running") && decide (V.int t.sp = V.int 0) && !(f t.nm).isSome && !inV (.int t.bn) (cf.map V.int)
def runD (t : T4) : PyData := .tuple [.str t.nm, .int t.bn, .str t.tx, .int t.sz]
def startB (hd : List Str) (t : T4) : Bool := decide (V.str t.st = V.str "bound") && decide (V.int t.sp = V.int 0) && !inV (.str t.nm) (hd.map V.str)
def endB (hd : List Str) (t : T4) : Bool := placed t.st && decide (V.int t.sp = V.int 1) && !inV (.str t.nm) (hd.map V.str)
def firstB (S : List Str) (stop : Int) (hd : List Str) (t : T4) : Bool := inV (.str t.st) (S.map V.str) && decide (V.int t.sp = V.int stop) && !inV (.str t.nm) (hd.map V.str)
theorem start_first (hd : List Str) : startB hd = firstB [Str.ofString "bound"] 0 hd := by
  funext t
  unfold startB firstB
  rw [inV_str t.st]
  congr 2
  rw [Bool.eq_iff_iff]
  simp
theorem end_first (hd : List Str) : endB hd = firstB [Str.ofString "bound", Str.ofString "running"] 1 hd := rfl
def optD : Option T4 → PyData
  | none => .none
  | some t => t.d
theorem find_at {α : Type} {l : List α} {i : Nat} {x : α} {p : α → Bool} (h0 : (l.take i).find? p = none) (h : l[i]? = some x) (hp : p x = true) : l.find? p = some x := by
  have e : l = l.take i ++ x :: l.drop (i + 1) := by
    obtain ⟨hi, rfl⟩ := List.getElem?_eq_some_iff.mp h
    rw [← List.drop_eq_getElem_cons hi, List.take_append_drop]
  rw [e, List.find?_append, h0, List.find?_cons_of_pos hp]
  rfl
theorem find_not {α : Type} {l : List α} {i : Nat} {x : α} {p : α → Bool} (h0 : (l.take i).find? p = none) (h : l[i]? = some x) (hp : p x = false) : (l.take (i + 1)).find? p = none := by
  rw [take_more h, List.find?_append, h0, List.find?_cons_of_neg (by simp [hp])]
  rfl
theorem flat_ints' (ns : List Int) : (ns.map V.int).all flatV = true := by
  rw [List.all_map]
  exact List.all_eq_true.mpr fun _ _ => rfl
def sp_placed (K : PySem.W.Frag) : Sp := fun vs H Q _ => ∃ (v : V) (ds : List PyData) (st : Str), vs = [v] ∧ Dp K H v (.tuple ds) ∧ ds[3]? = some (.str st) ∧ ∀ H', Same H H' → Q (.bl (placed st)) H'
def sp_rnew (C : Addr) : Sp := fun vs H Q _ => ∃ (p dx : Addr), vs = [.ref p] ∧ H p = some (.ins C dx []) ∧ ∀ (ab : Addr) (H' : Hp), H ab = none → RAt C H' p ab (fun _ => none) → Fr [p] H H' → Q .non H'
def sp_rbegin (C : Addr) : Sp := fun vs H Q _ => ∃ (p ab : Addr) (f : IM) (k : Str) (v : Int), vs = [.ref p, .str k, .int v] ∧ RAt C H p ab f ∧ k ∈ U31 ∧ ∀ H', RAt C H' p ab (setF f k v) → Fr [p, ab] H H' → Q .non H'
def sp_rslots (C : Addr) : Sp := fun vs H Q _ => ∃ (p ab : Addr) (f : IM), vs = [.ref p] ∧ RAt C H p ab f ∧ ∀ ys l H', Ord (fun s => (f s).isSome) ys → H l = none → Same H H' → H' l = some (.lst (ys.map V.str)) → Q (.ref l) H'
def sp_tasks (K : PySem.W.Frag) : Sp := fun vs H Q _ => ∃ (l : Addr) (xs : List V) (es : List E7) (nd : Str) (lf : Int), vs = [.ref l, .str nd, .int lf] ∧ SqL K H l xs ∧ DpAll K H xs (es.map E7.d) ∧ es.length ≤ 100 ∧ ∀ p H' ys, Same H H' → H' p = some (.lst ys) → DpAll K H' ys ((srt es nd lf).map T4.d) → Q (.ref p) H'
def sp_torun (K : PySem.W.Frag) (C : Addr) : Sp := fun vs H Q _ => ∃ (l p ab c : Addr) (xs : List V) (ts : List T4) (f : IM) (cf : List Int), vs = [.ref l, .ref p, .ref c] ∧ SqL K H l xs ∧ DpAll K H xs (ts.map T4.d) ∧ ts.length ≤ 100 ∧ RAt C H p ab f ∧ H c = some (.lst (cf.map V.int)) ∧ ∀ q H' ys, Same H H' → H' q = some (.lst ys) → DpAll K H' ys ((ts.filter (goB f cf)).map runD) → Q (.ref q) H'
def sp_next (K : PySem.W.Frag) (B : List Str → T4 → Bool) : Sp := fun vs H Q _ => ∃ (l c : Addr) (xs : List V) (ts : List T4) (hd : List Str), vs = [.ref l, .ref c] ∧ SqL K H l xs ∧ DpAll K H xs (ts.map T4.d) ∧ H c = some (.lst (hd.map V.str)) ∧ ∀ v H', Same H H' → Dp K H' v (optD (ts.find? (B hd))) → Q v H'
def sp_first (K : PySem.W.Frag) : Sp := fun vs H Q _ => ∃ (l s c : Addr) (xs : List V) (ts : List T4) (S hd : List Str) (stop : Int), vs = [.ref l, .ref s, .int stop, .ref c] ∧ SqL K H l xs ∧ DpAll K H xs (ts.map T4.d) ∧ H c = some (.lst (hd.map V.str)) ∧ H s = some (.lst (S.map V.str)) ∧ ∀ v, Dp K H v (optD (ts.find? (firstB S stop hd))) → Q v H
section
variable {P : Program} {w : World} {K : PySem.W.Frag} {mg : Str → Option Value} {base : Heap}
theorem ok_is_placed (T : TX K mg) : FnOk P w K mg base CX0 1 T.a_is_placed T.d_is_placed ["value"] (sp_placed K) := by
  refine T.F_is_placed.ok sc_is_placed (fun vs H Q E h => ?_) (fun cdv A outer s H vs Q E hr h => ?_)
  · obtain ⟨v, ds, st, rfl, _⟩ := h
    rfl
  · obtain ⟨v, ds, st, rfl, hv, h3, q⟩ := h
    refine ⟨_, (pss_one (ps_ret (pe_cmpR op_in_seq (pe_ix ix_tup (pv 0) (pe_glob (v := .int 3) (by rfl) T.c_STATE ⟨_, rfl⟩) (fun _ _ => rfl)) (pe_tup (pa_cons pe_str (pa_cons pe_str pa_nil))) rfl))), ?_⟩
    obtain ⟨p, xs, rfl, ht, ha⟩ := dp_tup hv
    have hl := dpa_len ha
    have h3l := (List.getElem?_eq_some_iff.mp h3).1
    have hx : xs[3]? = some xs[3] := List.getElem?_eq_getElem (by omega)
    obtain ⟨d, hd, hdp⟩ := dpa_at ha hx
    rw [h3] at hd
    cases hd
    have hx' := dp_str hdp
    rw [hx'] at hx
    refine ⟨_, rfl, p, xs, 3, _, rfl, rfl, ht, atI_nat (j := 3) hx, (by show 2 ≤ sizeLine; decide), fun t hn => ?_⟩
    refine ⟨t, _, rfl, .inr (sqt upd_same), rfl, rfl, ?_⟩
    exact q _ (same_upd hn)
theorem ok_Runs___init__ (T : TX K mg) : FnOk P w K mg base CX0 1 T.a_Runs___init__ T.d_Runs___init__ ["self"] (sp_rnew T.a_Runs) := by
  refine T.F_Runs___init__.ok sc_Runs___init__ (fun vs H Q E h => ?_) (fun cdv A outer s H vs Q E hr h => ?_)
  · obtain ⟨p, dx, rfl, _⟩ := h
    rfl
  · obtain ⟨p, dx, rfl, hp, c⟩ := h
    refine ⟨_, (pss_one (ps_fld (pv 0) pe_dnewK rfl)), ?_⟩
    refine fun ab hab => ⟨_, rfl, p, T.a_Runs, dx, [], rfl, by rw [upd_ne (ne_of_none hp hab)]; exact hp, T.K_Runs, T.na_Runs__borns, (by show 0 < 1000; decide), ?_⟩
    have n1 : ab ≠ p := (ne_of_none hp hab).symm
    refine c ab _ hab ⟨⟨dx, ?_⟩, ⟨[], ?_, ds_nil⟩⟩ ?_
    · rw [upd_same, fl_Runs_new]
    · rw [upd_ne n1, upd_same]
    · intro x o hx hxp
      have hxp' : x ≠ p := by simpa using hxp
      rw [upd_ne hxp', upd_ne (ne_of_none hx hab)]
      exact hx
theorem ok_Runs_begin (T : TX K mg) : FnOk P w K mg base CX0 1 T.a_Runs_begin T.d_Runs_begin ["self", "slot", "born"] (sp_rbegin T.a_Runs) := by
  refine T.F_Runs_begin.ok sc_Runs_begin (fun vs H Q E h => ?_) (fun cdv A outer s H vs Q E hr h => ?_)
  · obtain ⟨p, ab, f, k, v, rfl, _⟩ := h
    rfl
  · obtain ⟨p, ab, f, k, v, rfl, ⟨⟨dx, ob⟩, ⟨k1, e1, d1⟩⟩, hU, c⟩ := h
    refine ⟨_, (pss_one (ps_dput (hu_of hr) (pe_fld (pv 0) rfl) (pv 1) (pv 2) rfl)), ?_⟩
    have npb : p ≠ ab := fun z => by rw [z, e1] at ob; cases ob
    have l1 := ds_len d1
    have u4 := u31_len
    refine ⟨_, rfl, _, rfl, p, _, dx, _, _, rfl, ob, T.K_Runs, T.na_Runs__borns, fl_Runs__borns, _, rfl, ab, _, rfl, DPut.k (k := Sum.inr k) e1 (szl (by omega)), ?_⟩
    exact c _ ⟨⟨dx, by rw [upd_ne npb]; exact ob⟩, ⟨_, upd_same, ds_put d1 hU v⟩⟩ ((Fr.refl _ _).up (by simp))
theorem ok_Runs_slots (T : TX K mg) : FnOk P w K mg base CX0 1 T.a_Runs_slots T.d_Runs_slots ["self"] (sp_rslots T.a_Runs) := by
  refine T.F_Runs_slots.ok sc_Runs_slots (fun vs H Q E h => ?_) (fun cdv A outer s H vs Q E hr h => ?_)
  · obtain ⟨p, ab, f, rfl, _⟩ := h
    rfl
  · obtain ⟨p, ab, f, rfl, ⟨⟨dx, ob⟩, ⟨k1, e1, d1⟩⟩, c⟩ := h
    refine ⟨_, (pss_one (ps_ret (pe_callB (call_sortedD rfl) (by rfl) T.n_sorted (by decide +kernel) (pa_cons (pe_fld (pv 0) rfl) pa_nil)))), ?_⟩
    have l1 := ds_len d1
    have u4 := u31_len
    refine ⟨_, rfl, p, _, dx, _, _, rfl, ob, T.K_Runs, T.na_Runs__borns, fl_Runs__borns, ab, k1, _, rfl, .inl e1, keys_map d1, by rw [List.length_map]; omega, fun ys l hp hs hf => ?_⟩
    exact c ys l _ ⟨hp.nodup_iff.mpr (keys_nd d1), hs, fun s => by rw [hp.mem_iff, key_iff d1]⟩ hf (same_upd hf) upd_same
theorem ok_tasks_of (T : TX K mg) : FnOk P w K mg base CX0 1 T.a_tasks_of T.d_tasks_of ["entries", "node", "life"] (sp_tasks K) := by
  refine T.F_tasks_of.ok sc_tasks_of (fun vs H Q E h => ?_) (fun cdv A outer s H vs Q E hr h => ?_)
  · obtain ⟨l, xs, es, nd, lf, rfl, _⟩ := h
    rfl
  · obtain ⟨l, xs, es, nd, lf, rfl, hL, hx, hl, c⟩ := h
    refine ⟨_, (pss_cons (ps_setLc (i := 3) (own := [("entry", 4)]) (g := gName 4)  (by rfl) sc_tasks_of.nd rfl rfl (sw_true rfl rfl rfl (by decide +kernel)) (pi_list (pv 0)) (blkOk_by (own := [("entry", 4)]) (N := ["entries", "node", "life", "tasks", "entry", "task"]) (sc := defScope s_tasks_of) (by decide +kernel)) (fun _ _ _ _ _ => pg_name (i := 4) sc_tasks_of.nd rfl (Or.inl rfl)) (fun _ _ _ _ _ => pts_one (pt_cmpR op_eq (pe_ix (ixK_tup (K := K) rfl) (pv 4) pe_int (fun _ _ => rfl)) pe_str (nomark _))) (fun _ _ _ _ _ => (pe_slice (slK_tup (K := K) rfl) (pv 4) (po_some pe_int) po_none)))
      (pss_one (ps_ret (pe_callB (cr_sortedD hr.units) (by rfl) T.n_sorted (by decide +kernel) (pa_cons (pe_lc (own := [("task", 5)]) (g := gName 5)  (by rfl) sc_tasks_of.nd (pi_list (pv 3)) (blkOk_by (own := [("task", 5)]) (N := ["entries", "node", "life", "tasks", "entry", "task"]) (sc := defScope s_tasks_of) (by decide +kernel)) (fun _ _ _ _ _ => pg_name (i := 5) sc_tasks_of.nd rfl (Or.inl rfl)) (fun _ _ _ _ _ => pts_one (PW.pt (pw_and (pt_cmpR op_eq (pe_ix (ixK_tup (K := K) rfl) (pe_ix (ixK_tup (K := K) rfl) (pv 5) pe_int (fun _ _ => rfl)) (pe_glob (v := .int 5) (by rfl) T.c_NODE ⟨_, rfl⟩) (fun _ _ => rfl)) (pv 1) (nomark _)) (pw_and1 (pt_cmpR op_eq (pe_ix (ixK_tup (K := K) rfl) (pe_ix (ixK_tup (K := K) rfl) (pv 5) pe_int (fun _ _ => rfl)) (pe_glob (v := .int 6) (by rfl) T.c_LIFE ⟨_, rfl⟩) (fun _ _ => rfl)) (pv 2) (nomark _)))))) (fun _ _ _ _ _ => (pv 5))) pa_nil))))), ?_⟩
    refine nrm6 rfl ?_
    refine ⟨_, rfl, l, rfl, ⟨_, hL⟩, fun D hD => ?_⟩
    refine lcd (K := K) es E7.d (fun e => (taskOf e).map T4.d) hD hL hx (by omega) ?_ ?_
    · intro x e G he s1 ⟨lD, hGD⟩ hdp J j1 j2
      cases e with
      | node n a b lf =>
        obtain ⟨p, v0, v1, v2, v3, v, rfl, ht, ⟨⟩, ⟨⟩, ⟨⟩, ⟨⟩, hv⟩ := dp_t5 hdp
        have ht := sqt_same s1 ht
        exact ⟨rfl, _, rfl, p, _, 0, _, rfl, rfl, ht, atI_nat (j := 0) rfl, rfl, _, rfl, iff0 (by decide +kernel) (j1 _ (Same.refl _) rfl)⟩
      | task t =>
        obtain ⟨p, v0, v1, v2, v3, v, rfl, ht, ⟨⟩, ⟨⟩, ⟨⟩, ⟨⟩, hv⟩ := dp_t5 hdp
        have ht := sqt_same s1 ht
        refine ⟨rfl, _, rfl, p, _, 0, _, rfl, rfl, ht, atI_nat (j := 0) rfl, rfl, _, rfl, ift rfl ?_⟩
        refine ⟨_, rfl, _, rfl, p, _, rfl, ht, (fun h => absurd (show (1 : Nat) = 0 from h.1) (by decide)), fun u hu => ?_⟩
        have nuD : u ≠ D := fun z => by rw [z, hGD] at hu; cases hu
        refine j2 (.ref u) t.d _ (same_upd hu) (fun G'' s3 o => ?_) rfl
        have gu : G'' u = some (.tup [.str t.nm, .int t.bn, .int t.rv, v]) := by
          have := o u _ nuD upd_same
          rw [this]
          rfl
        exact .tup (sqt gu) (.cons (.str _) (.cons (.int _) (.cons (.int _) (.cons (dp_same s3 _ hv) .nil))))
    · intro H1 ys s1 e1 h1
      have hm : es.filterMap (fun e => (taskOf e).map T4.d) = (es.filterMap taskOf).map T4.d := by rw [List.map_filterMap]
      rw [hm] at h1
      have hl1 : (es.filterMap taskOf).length ≤ es.length := List.length_filterMap_le _ _
      refine gnm6 rfl ?_
      refine ⟨_, rfl, D, rfl, ⟨_, sql e1⟩, fun D2 hD2 => ?_⟩
      refine lcd (K := K) (es.filterMap taskOf) T4.d (fun t => if mineT nd lf t = true then some t.d else none) hD2 (sql e1) h1 (by omega) ?_ ?_
      · intro x t G he s2 _ hdp J j1 j2
        obtain ⟨p, v0, v1, v2, v, rfl, ht, ⟨⟩, ⟨⟩, ⟨⟩, hv⟩ := dp_t4 hdp
        obtain ⟨pv_, u0, u1, u2, u3, u4, u5, u6, u7, rfl, hpv, ⟨⟩, ⟨⟩, ⟨⟩, ⟨⟩, ⟨⟩, ⟨⟩, ⟨⟩, ⟨⟩⟩ := dp_t8 hv
        have ht := sqt_same s2 ht
        have hpv := sqt_same s2 hpv
        refine ⟨rfl, _, rfl, p, _, 3, _, rfl, rfl, ht, atI_nat (j := 3) rfl, pv_, _, 5, _, rfl, rfl, hpv, atI_nat (j := 5) rfl, _, rfl, rfl, _, rfl, ifd (fun h1 => ?_) (fun h1 => ifbf rfl (j1 _ (Same.refl _) (if_neg (by simp [mineT, h1]))))⟩
        refine ⟨_, rfl, p, _, 3, _, rfl, rfl, ht, atI_nat (j := 3) rfl, pv_, _, 6, _, rfl, rfl, hpv, atI_nat (j := 6) rfl, _, rfl, rfl, _, rfl, ifd (fun h2 => ?_) (fun h2 => j1 _ (Same.refl _) (if_neg (by simp [mineT, h2])))⟩
        exact ⟨_, rfl, j2 _ _ G (Same.refl _) (fun G'' s3 _ => dp_same s3 _ hdp) (if_pos (by simp [mineT, h1, h2]))⟩
      · intro H2 zs s2 e2 h2
        rw [fm_if] at h2
        refine ⟨D2, zs, _, rfl, sql e2, h2, t4_alike _, t4_sortable _, t4_depth _, fun ws p hp hz _ => ?_⟩
        have hz : DpAll K H2 ws (((sel es nd lf).map T4.d).mergeSort leD) := hz
        rw [t4_sort] at hz
        exact c p _ ws ((s1.trans s2).trans (same_upd hp)) upd_same (dpa_same (same_upd hp) _ hz)
theorem ok_to_run (T : TX K mg) : FnOk P w K mg base CX0 2 T.a_to_run T.d_to_run ["tasks", "runs", "confirmed"] (sp_torun K T.a_Runs) := by
  refine T.F_to_run.ok sc_to_run (fun vs H Q E h => ?_) (fun cdv A outer s H vs Q E hr h => ?_)
  · obtain ⟨l, p, ab, c, xs, ts, f, cf, rfl, _⟩ := h
    rfl
  · obtain ⟨l, p, ab, c, xs, ts, f, cf, rfl, hL, hx, hl, hA, hc, q⟩ := h
    refine ⟨_, (pss_cons (ps_set (i := 3) sc_to_run.nd rfl (Or.inl rfl) (pe_meth0 (pv 1) T.K_Runs T.m_Runs_slots (ok_Runs_slots T) (hr.mono (by decide)) T.b_Runs_slots .nil pass0))
      (pss_cons (ps_set (i := 4) sc_to_run.nd rfl (Or.inl rfl) (pe_lst pa_nil))
      (pss_cons (ps_for PassesOwn.never rfl (pi_list (pv 0)) (pg_tup (by rfl) (pgs_cons (pg_name (i := 5) sc_to_run.nd rfl (Or.inl rfl)) (pgs_cons (pg_name (i := 6) sc_to_run.nd rfl (Or.inl rfl)) (pgs_cons (pg_name (i := 7) sc_to_run.nd rfl (Or.inl rfl)) (pgs_cons (pg_name (i := 8) sc_to_run.nd rfl (Or.inl rfl)) pgs_nil)))))
        (pss_one (ps_if (PW.pt (pw_and (pt_cmpR op_eq (pe_ix ix_tup (pv 8) (pe_glob (v := .int 3) (by rfl) T.c_STATE ⟨_, rfl⟩) (fun _ _ => rfl)) pe_str (nomark _)) (pw_and (pt_cmpR op_eq (pe_ix ix_tup (pv 8) (pe_glob (v := .int 4) (by rfl) T.c_STOP ⟨_, rfl⟩) (fun _ _ => rfl)) pe_int (nomark _)) (pw_and (pt_cmpR op_notIn_seq (pv 5) (pv 3) rfl) (pw_and1 (pt_cmpR op_notIn_seq (pv 6) (pv 2) rfl)))))) (pss_one (ps_expr (pe_bm PySem.F.plainAttrs_list PySem.F.slot_list_append PySem.F.type_list_append mt_append (pv 4) (pa_cons (pe_tup (pa_cons (pv 5) (pa_cons (pv 6) (pa_cons (pe_ix ix_tup (pv 8) (pe_glob (v := .int 1) (by rfl) T.c_TEXT ⟨_, rfl⟩) (fun _ _ => rfl)) (pa_cons (pe_ix ix_tup (pv 8) (pe_glob (v := .int 2) (by rfl) T.c_SIZE ⟨_, rfl⟩) (fun _ _ => rfl)) pa_nil))))) pa_nil)))) pss_nil)))
      (pss_one (ps_ret (pv 4)))))), ?_⟩
    obtain ⟨dx, ob⟩ := hA.ob
    refine nrm9 rfl ?_
    refine ⟨_, rfl, p, dx, _, rfl, ob, fl_Runs_no_slots, p, ab, f, rfl, hA, fun ys R H1 hO hR s1 eR => ?_⟩
    refine gnm9 rfl ?_
    refine ⟨Nat.zero_le _, fun F hF => ?_⟩
    refine gnm9 rfl ?_
    have hxl : xs.length = ts.length := by have := dpa_len hx; rwa [List.length_map] at this
    refine ⟨_, rfl, l, rfl, ⟨_, (s1.trans (same_upd hF)).seq hL⟩, for_list (K := K) (a := l) (xs := xs) (fun i σ G => ∃ x5 x6 x7 x8 rs, σ = [some (.ref l), some (.ref p), some (.ref c), some (.ref R), some (.ref F), x5, x6, x7, x8] ∧ Same H1 G ∧ G F = some (.lst rs) ∧ (∀ G'', Same H1 G'' → Off F G G'' → DpAll K G'' rs (((ts.take i).filter (goB f cf)).map runD)))
      ⟨none, none, none, none, [], rfl, same_upd hF, upd_same, fun _ _ _ => .nil⟩ (fun i σ G _ ⟨_, _, _, _, _, _, h, _⟩ => (s1.trans h).seq hL) ?_ ?_⟩
    · rintro i x σ G hxi ⟨x5, x6, x7, x8, rs, rfl, g1, g2, g3⟩
      obtain ⟨d, hd, hdp⟩ := dpa_at hx hxi
      rw [List.getElem?_map] at hd
      cases he : ts[i]? with
      | none => rw [he] at hd; cases hd
      | some t =>
        rw [he] at hd
        cases hd
        have s1g := s1.trans g1
        obtain ⟨pt, v0, v1, v2, v, rfl, ht, ⟨⟩, ⟨⟩, ⟨⟩, hv⟩ := dp_t4 hdp
        obtain ⟨pv_, u0, u1, u2, u3, u4, u5, u6, u7, rfl, hpv, ⟨⟩, ⟨⟩, ⟨⟩, ⟨⟩, ⟨⟩, ⟨⟩, ⟨⟩, ⟨⟩⟩ := dp_t8 hv
        have ht := sqt_same s1g ht
        have hpv := sqt_same s1g hpv
        refine ⟨pt, _, rfl, ht, rfl, _, _, rfl, _, _, rfl, _, _, rfl, _, _, rfl, rfl, ?_⟩
        refine nrm9 rfl ?_
        have skip : goB f cf t = false → (∀ G'', Same H1 G'' → Off F G G'' → DpAll K G'' rs (((ts.take (i + 1)).filter (goB f cf)).map runD)) := fun h => by
          rw [tf_no he h]
          exact g3
        refine ⟨_, rfl, pv_, _, 3, _, rfl, rfl, hpv, atI_nat (j := 3) rfl, rfl, _, rfl, ifd (fun h1 => ?_) (fun h1 => ifbf rfl ⟨_, _, _, _, rs, rfl, g1, g2, skip (by simp [goB, h1])⟩)⟩
        refine ⟨_, rfl, pv_, _, 4, _, rfl, rfl, hpv, atI_nat (j := 4) rfl, rfl, _, rfl, ifd (fun h2 => ?_) (fun h2 => ifbf rfl ⟨_, _, _, _, rs, rfl, g1, g2, skip (by simp [goB, h2])⟩)⟩
        refine ⟨_, rfl, _, rfl, R, _, rfl, .inl (sql (g1 _ _ eR)), rfl, flat_strs _, _, rfl, ?_⟩
        have hin : inV (.str t.nm) (ys.map V.str) = (f t.nm).isSome := by
          rw [inV_str, Bool.eq_iff_iff, decide_eq_true_iff]
          exact hO.2.2 t.nm
        refine ifb2 (fun h3 => ?_) (fun h3 => ifbf rfl ⟨_, _, _, _, rs, rfl, g1, g2, skip ?_⟩)
        · have h3' : (f t.nm).isSome = false := by rw [← hin]; simpa using h3
          refine ⟨_, rfl, _, rfl, c, _, rfl, .inl (sql (s1g _ _ hc)), rfl, flat_ints' _, _, rfl, ?_⟩
          refine ifb2 (fun h4 => ?_) (fun h4 => ⟨_, _, _, _, rs, rfl, g1, g2, skip ?_⟩)
          · have h4' : inV (.int t.bn) (cf.map V.int) = false := by simpa using h4
            refine ⟨_, rfl, .inl ⟨rfl, _, sql g2⟩, _, rfl, _, rfl, _, rfl, pv_, _, 1, _, rfl, rfl, hpv, atI_nat (j := 1) rfl, _, rfl, pv_, _, 2, _, rfl, rfl, hpv, atI_nat (j := 2) rfl, (by show 4 ≤ sizeLine; decide), fun u hu => ?_⟩
            have hl1 : rs.length = ((ts.take i).filter (goB f cf)).length := by have := dpa_len (g3 G g1 (Off.refl _ _)); rwa [List.length_map] at this
            have hl2 : ((ts.take i).filter (goB f cf)).length ≤ ts.length := Nat.le_trans (List.length_filter_le _ _) (by rw [List.length_take]; omega)
            have nuF : F ≠ u := ne_of_none g2 hu
            refine ⟨F, rs, _, rfl, rfl, by rw [upd_ne nuF]; exact g2, szl (by omega), ?_⟩
            refine ⟨_, _, _, _, rs ++ [.ref u], rfl, same_put (g1.trans (same_upd hu)) hF, upd_same, fun G'' s9 o => ?_⟩
            have hg : goB f cf t = true := by simp [goB, h1, h2, h3', h4']
            rw [take_filter _ he, hg, List.map_append]
            refine dpa_app (g3 G'' s9 (Off.pre (same_upd hu) o.put)) (.cons (.tup (sqt (o.put u _ nuF.symm upd_same)) (.cons (.str _) (.cons (.int _) (.cons (.str _) (.cons (.int _) .nil))))) .nil)
          · have h4' : inV (.int t.bn) (cf.map V.int) = true := by simpa using h4
            simp [goB, h4']
        · have h3' : (f t.nm).isSome = true := by rw [← hin]; simpa using h3
          simp [goB, h3']
    · rintro σ G ⟨x5, x6, x7, x8, rs, rfl, g1, g2, g3⟩
      rw [hxl, List.take_length] at g3
      exact ⟨_, rfl, q F G rs (s1.trans g1) g2 (g3 G g1 (Off.refl _ _))⟩
end
def nm7 (k : Nat) : Str := Str.ofString "s" ++ Str.ofString (toString (((7 * k) % 31 : Nat) : Int)) ++ Str.ofString "/0"
theorem nm7_in (k : Nat) : nm7 k ∈ U31 := List.mem_map.mpr ⟨(7 * k) % 31, List.mem_range.mpr (Nat.mod_lt _ (by decide)), rfl⟩
theorem u31_ok : ∀ z ∈ U31, PyData.strOk z = true := by decide +kernel
theorem st_ok : ∀ z ∈ ([Str.ofString "new", Str.ofString "bound", Str.ofString "running", Str.ofString "ended", Str.ofString "running", Str.ofString "bound"] : List Str), PyData.strOk z = true := by decide +kernel
theorem nd_ok : ∀ z ∈ ([Str.ofString "w1", Str.ofString "w2", Str.ofString "w10"] : List Str), PyData.strOk z = true := by decide +kernel
theorem flatV7 {t : T4} (h : okT t) : Flat 1 t.v := by
  refine flat_tup (n := 0) fun d hd => ?_
  simp only [List.mem_cons, List.not_mem_nil, or_false] at hd
  rcases hd with rfl | rfl | rfl | rfl | rfl | rfl | rfl | rfl
  · exact flat_int _ _
  · exact flat_str _ _ h.2.2.1
  · exact flat_int _ _
  · exact flat_str _ _ h.2.2.2.1
  · exact flat_int _ _
  · exact flat_str _ _ h.2.2.2.2
  · exact flat_int _ _
  · exact flat_str _ _
theorem flatT7 {t : T4} (h : okT t) : Flat 2 t.d := by
  refine flat_tup (n := 1) fun d hd => ?_
  simp only [List.mem_cons, List.not_mem_nil, or_false] at hd
  rcases hd with rfl | rfl | rfl | rfl
  · exact flat_str _ _ h.2.1
  · exact flat_int _ _
  · exact flat_int _ _
  · exact flatV7 h
theorem flatR7 {t : T4} (h : okT t) : Flat 1 (runD t) := by
  refine flat_tup (n := 0) fun d hd => ?_
  simp only [List.mem_cons, List.not_mem_nil, or_false] at hd
  rcases hd with rfl | rfl | rfl | rfl
  · exact flat_str _ _ h.2.1
  · exact flat_int _ _
  · exact flat_str _ _ h.2.2.1
  · exact flat_int _ _
theorem flatE7 {e : E7} (h : ok7 e) : Flat 2 e.d := by
  cases e with
  | node n a b lf =>
    refine flat_tup (n := 1) fun d hd => ?_
    simp only [List.mem_cons, List.not_mem_nil, or_false] at hd
    rcases hd with rfl | rfl | rfl | rfl | rfl
    · exact flat_str _ _
    · exact flat_str _ _ h
    · exact flat_int _ _
    · exact flat_int _ _
    · refine flat_tup (n := 0) fun d hd => ?_
      simp only [List.mem_cons, List.not_mem_nil, or_false] at hd
      rcases hd with rfl | rfl | rfl | rfl | rfl
      iterate 4 exact flat_int _ _
      exact flat_str _ _
  | task t =>
    have h : okT t := h
    refine flat_tup (n := 1) fun d hd => ?_
    simp only [List.mem_cons, List.not_mem_nil, or_false] at hd
    rcases hd with rfl | rfl | rfl | rfl | rfl
    · exact flat_str _ _
    · exact flat_str _ _ h.2.1
    · exact flat_int _ _
    · exact flat_int _ _
    · exact flatV7 h
def sp_entry (K : PySem.W.Frag) : Sp := fun vs H Q _ => ∃ (a : Addr) (ns : List Int) (k : Nat), vs = [.ref a, .int (k : Int)] ∧ SqL K H a (ns.map V.int) ∧ k < 42 ∧ ∀ (p : Addr) (e : E7) (H' : Hp), H p = none → Same H H' → ok7 e → (∀ G, (∀ b o, H b = none → H' b = some o → G b = some o) → Dp K G (.ref p) e.d) → Q (.ref p) H'
def sp_one (K : PySem.W.Frag) (C : Addr) : Sp := fun vs H Q _ => ∃ (l p ab cc hc : Addr) (nd : Str) (lf : Int) (xs : List V) (es : List E7) (f : IM) (cf : List Int) (hd : List Str), vs = [.ref l, .str nd, .int lf, .ref p, .ref cc, .ref hc] ∧ H l = some (.lst xs) ∧ DpAll K H xs (es.map E7.d) ∧ es.length ≤ 60 ∧ (∀ e ∈ es, ok7 e) ∧ RAt C H p ab f ∧ H cc = some (.lst (cf.map V.int)) ∧ H hc = some (.lst (hd.map V.str)) ∧ ∀ H', Same H H' → Q (.bl true) H'
def sp_law (K : PySem.W.Frag) : Sp := fun vs H Q _ => ∃ (a : Addr) (ns : List Int), vs = [.ref a] ∧ SqL K H a (ns.map V.int) ∧ ns.length ≤ 63 ∧ ∀ H', Q (.bl true) H'
section
variable {P : Program} {w : World} {K : PySem.W.Frag} {mg : Str → Option Value} {base : Heap}
theorem ok_next_start (T : TX K mg) : FnOk P w K mg base CX0 1 T.a_next_start T.d_next_start ["tasks", "held"] (sp_next K startB) := by
  refine T.F_next_start.ok sc_next_start (fun vs H Q E h => ?_) (fun cdv A outer s H vs Q E hr h => ?_)
  · obtain ⟨l, c, xs, ts, hd, rfl, _⟩ := h
    rfl
  · obtain ⟨l, c, xs, ts, hd, rfl, hL, hx, hc, q⟩ := h
    refine ⟨_, (pss_cons (ps_for PassesOwn.never rfl (pi_list (pv 0)) (pg_name (i := 2) sc_next_start.nd rfl (Or.inl rfl))
        (pss_cons (ps_asg (pv 2) (pg_tup (by rfl) (pgs_cons (pg_name (i := 3) sc_next_start.nd rfl (Or.inl rfl)) (pgs_cons (pg_name (i := 4) sc_next_start.nd rfl (Or.inl rfl)) (pgs_cons (pg_name (i := 4) sc_next_start.nd rfl (Or.inl rfl)) (pgs_cons (pg_name (i := 5) sc_next_start.nd rfl (Or.inl rfl)) pgs_nil))))))
        (pss_one (ps_if (PW.pt (pw_and (pt_cmpR op_eq (pe_ix ix_tup (pv 5) (pe_glob (v := .int 3) (by rfl) T.c_STATE ⟨_, rfl⟩) (fun _ _ => rfl)) pe_str (nomark _)) (pw_and (pt_cmpR op_eq (pe_ix ix_tup (pv 5) (pe_glob (v := .int 4) (by rfl) T.c_STOP ⟨_, rfl⟩) (fun _ _ => rfl)) pe_int (nomark _)) (pw_and1 (pt_cmpR op_notIn_seq (pv 3) (pv 1) rfl))))) (pss_one (ps_ret (pv 2))) pss_nil))))
      (pss_one (ps_ret pe_non))), ?_⟩
    have hxl : xs.length = ts.length := by have := dpa_len hx; rwa [List.length_map] at this
    refine nrm6 rfl ?_
    refine ⟨_, rfl, l, rfl, ⟨_, hL⟩, for_list (K := K) (a := l) (xs := xs) (fun i σ G => H = G ∧ ∃ x2 x3 x4 x5, σ = [some (.ref l), some (.ref c), x2, x3, x4, x5] ∧ (ts.take i).find? (startB hd) = none)
      ⟨rfl, none, none, none, none, rfl, rfl⟩ (fun i σ G _ ⟨e, _⟩ => by rw [← e]; exact hL) ?_ ?_⟩
    · rintro i x σ _ hxi ⟨rfl, x2, x3, x4, x5, rfl, h0⟩
      obtain ⟨d, hd1, hdp⟩ := dpa_at hx hxi
      rw [List.getElem?_map] at hd1
      cases he : ts[i]? with
      | none => rw [he] at hd1; cases hd1
      | some t =>
        rw [he] at hd1
        cases hd1
        have hdp0 := hdp
        obtain ⟨pt, v0, v1, v2, v, rfl, ht, ⟨⟩, ⟨⟩, ⟨⟩, hv⟩ := dp_t4 hdp
        obtain ⟨pv_, u0, u1, u2, u3, u4, u5, u6, u7, rfl, hpv, ⟨⟩, ⟨⟩, ⟨⟩, ⟨⟩, ⟨⟩, ⟨⟩, ⟨⟩, ⟨⟩⟩ := dp_t8 hv
        refine gnm6 rfl ?_
        refine ⟨_, rfl, pt, _, rfl, ht, rfl, _, _, rfl, _, _, rfl, _, _, rfl, _, _, rfl, rfl, ?_⟩
        refine nrm6 rfl ?_
        refine ⟨_, rfl, pv_, _, 3, _, rfl, rfl, hpv, atI_nat (j := 3) rfl, rfl, _, rfl, ifd (fun h1 => ?_) (fun h1 => ifbf rfl ⟨rfl, _, _, _, _, rfl, find_not h0 he (by simp [startB, h1])⟩)⟩
        refine ⟨_, rfl, pv_, _, 4, _, rfl, rfl, hpv, atI_nat (j := 4) rfl, rfl, _, rfl, ifd (fun h2 => ?_) (fun h2 => ifbf rfl ⟨rfl, _, _, _, _, rfl, find_not h0 he (by simp [startB, h2])⟩)⟩
        refine ⟨_, rfl, _, rfl, c, _, rfl, .inl (sql hc), rfl, flat_strs _, _, rfl, ?_⟩
        refine ifb2 (fun h3 => ?_) (fun h3 => ⟨rfl, _, _, _, _, rfl, find_not h0 he ?_⟩)
        · have h3' : inV (.str t.nm) (hd.map V.str) = false := by simpa using h3
          refine ⟨_, rfl, q _ _ (Same.refl _) ?_⟩
          rw [find_at h0 he (by simp [startB, h1, h2, h3'])]
          exact hdp0
        · have h3' : inV (.str t.nm) (hd.map V.str) = true := by simpa using h3
          simp [startB, h3']
    · rintro σ _ ⟨rfl, x2, x3, x4, x5, rfl, h0⟩
      rw [hxl, List.take_length] at h0
      refine q _ _ (Same.refl _) ?_
      rw [h0]
      exact .non
theorem ok_next_end (T : TX K mg) : FnOk P w K mg base CX0 2 T.a_next_end T.d_next_end ["tasks", "held"] (sp_next K endB) := by
  refine T.F_next_end.ok sc_next_end (fun vs H Q E h => ?_) (fun cdv A outer s H vs Q E hr h => ?_)
  · obtain ⟨l, c, xs, ts, hd, rfl, _⟩ := h
    rfl
  · obtain ⟨l, c, xs, ts, hd, rfl, hL, hx, hc, q⟩ := h
    refine ⟨_, (pss_cons (ps_for PassesOwn.never rfl (pi_list (pv 0)) (pg_name (i := 2) sc_next_end.nd rfl (Or.inl rfl))
        (pss_cons (ps_asg (pv 2) (pg_tup (by rfl) (pgs_cons (pg_name (i := 3) sc_next_end.nd rfl (Or.inl rfl)) (pgs_cons (pg_name (i := 4) sc_next_end.nd rfl (Or.inl rfl)) (pgs_cons (pg_name (i := 4) sc_next_end.nd rfl (Or.inl rfl)) (pgs_cons (pg_name (i := 5) sc_next_end.nd rfl (Or.inl rfl)) pgs_nil))))))
        (pss_one (ps_if (PW.pt (pw_and (pt_val (pe_call (ok_is_placed T) (hr.mono (by decide)) (by rfl) T.g_is_placed T.F_is_placed.kp T.b_is_placed .nil pass0 (pa_cons (pv 5) pa_nil))) (pw_and (pt_cmpR op_eq (pe_ix ix_tup (pv 5) (pe_glob (v := .int 4) (by rfl) T.c_STOP ⟨_, rfl⟩) (fun _ _ => rfl)) pe_int (nomark _)) (pw_and1 (pt_cmpR op_notIn_seq (pv 3) (pv 1) rfl))))) (pss_one (ps_ret (pv 2))) pss_nil))))
      (pss_one (ps_ret pe_non))), ?_⟩
    have hxl : xs.length = ts.length := by have := dpa_len hx; rwa [List.length_map] at this
    refine nrm6 rfl ?_
    refine ⟨_, rfl, l, rfl, ⟨_, hL⟩, for_list (K := K) (a := l) (xs := xs) (fun i σ G => ∃ x2 x3 x4 x5, σ = [some (.ref l), some (.ref c), x2, x3, x4, x5] ∧ Same H G ∧ (ts.take i).find? (endB hd) = none)
      ⟨none, none, none, none, rfl, Same.refl _, rfl⟩ (fun i σ G _ ⟨_, _, _, _, _, h, _⟩ => h.seq hL) ?_ ?_⟩
    · rintro i x σ G hxi ⟨x2, x3, x4, x5, rfl, g1, h0⟩
      obtain ⟨d, hd1, hdp⟩ := dpa_at hx hxi
      rw [List.getElem?_map] at hd1
      cases he : ts[i]? with
      | none => rw [he] at hd1; cases hd1
      | some t =>
        rw [he] at hd1
        cases hd1
        have hdp0 := hdp
        obtain ⟨pt, v0, v1, v2, v, rfl, ht, ⟨⟩, ⟨⟩, ⟨⟩, hv⟩ := dp_t4 hdp
        have hv0 := hv
        obtain ⟨pv_, u0, u1, u2, u3, u4, u5, u6, u7, rfl, hpv, ⟨⟩, ⟨⟩, ⟨⟩, ⟨⟩, ⟨⟩, ⟨⟩, ⟨⟩, ⟨⟩⟩ := dp_t8 hv
        have ht := sqt_same g1 ht
        refine gnm6 rfl ?_
        refine ⟨_, rfl, pt, _, rfl, ht, rfl, _, _, rfl, _, _, rfl, _, _, rfl, _, _, rfl, rfl, ?_⟩
        refine nrm6 rfl ?_
        refine ⟨_, rfl, _, _, t.st, rfl, dp_same g1 _ hv0, rfl, fun G2 s2 => ⟨_, rfl, ?_⟩⟩
        have g2 := g1.trans s2
        have hpv := sqt_same g2 hpv
        refine ifb2 (fun h1 => ?_) (fun h1 => ifbf rfl ⟨_, _, _, _, rfl, g2, find_not h0 he (by simp [endB, h1])⟩)
        refine ⟨_, rfl, pv_, _, 4, _, rfl, rfl, hpv, atI_nat (j := 4) rfl, rfl, _, rfl, ifd (fun h2 => ?_) (fun h2 => ifbf rfl ⟨_, _, _, _, rfl, g2, find_not h0 he (by simp [endB, h2])⟩)⟩
        refine ⟨_, rfl, _, rfl, c, _, rfl, .inl (sql (g2 _ _ hc)), rfl, flat_strs _, _, rfl, ?_⟩
        refine ifb2 (fun h3 => ?_) (fun h3 => ⟨_, _, _, _, rfl, g2, find_not h0 he ?_⟩)
        · have h3' : inV (.str t.nm) (hd.map V.str) = false := by simpa using h3
          refine ⟨_, rfl, q _ _ g2 ?_⟩
          rw [find_at h0 he (by simp [endB, h1, h2, h3'])]
          exact dp_same g2 _ hdp0
        · have h3' : inV (.str t.nm) (hd.map V.str) = true := by simpa using h3
          simp [endB, h3']
    · rintro σ G ⟨x2, x3, x4, x5, rfl, g1, h0⟩
      rw [hxl, List.take_length] at h0
      refine q _ _ g1 ?_
      rw [h0]
      exact .non
theorem ok__law_first (T : TX K mg) : FnOk P w K mg base CX0 1 T.a__law_first T.d__law_first ["tasks", "states", "stop", "held"] (sp_first K) := by
  refine T.F__law_first.ok sc__law_first (fun vs H Q E h => ?_) (fun cdv A outer s H vs Q E hr h => ?_)
  · obtain ⟨l, s, c, xs, ts, S, hd, stop, rfl, _⟩ := h
    rfl
  · obtain ⟨l, sl, c, xs, ts, S, hd, stop, rfl, hL, hx, hc, hs, q⟩ := h
    refine ⟨_, (pss_cons (ps_for PassesOwn.never rfl (pi_list (pv 0)) (pg_name (i := 4) sc__law_first.nd rfl (Or.inl rfl))
        (pss_one (ps_if (PW.pt (pw_and (pt_cmpR op_in_seq (pe_ix ix_tup (pe_ix ix_tup (pv 4) pe_int (fun _ _ => rfl)) pe_int (fun _ _ => rfl)) (pv 1) rfl) (pw_and (pt_cmpR op_eq (pe_ix ix_tup (pe_ix ix_tup (pv 4) pe_int (fun _ _ => rfl)) pe_int (fun _ _ => rfl)) (pv 2) (nomark _)) (pw_and1 (pt_cmpR op_notIn_seq (pe_ix ix_tup (pv 4) pe_int (fun _ _ => rfl)) (pv 3) rfl))))) (pss_one (ps_ret (pv 4))) pss_nil)))
      (pss_one (ps_ret pe_non))), ?_⟩
    have hxl : xs.length = ts.length := by have := dpa_len hx; rwa [List.length_map] at this
    refine nrm5 rfl ?_
    refine ⟨_, rfl, l, rfl, ⟨_, hL⟩, for_list (K := K) (a := l) (xs := xs) (fun i σ G => H = G ∧ ∃ x4, σ = [some (.ref l), some (.ref sl), some (.int stop), some (.ref c), x4] ∧ (ts.take i).find? (firstB S stop hd) = none)
      ⟨rfl, none, rfl, rfl⟩ (fun i σ G _ ⟨e, _⟩ => by rw [← e]; exact hL) ?_ ?_⟩
    · rintro i x σ _ hxi ⟨rfl, x4, rfl, h0⟩
      obtain ⟨d, hd1, hdp⟩ := dpa_at hx hxi
      rw [List.getElem?_map] at hd1
      cases he : ts[i]? with
      | none => rw [he] at hd1; cases hd1
      | some t =>
        rw [he] at hd1
        cases hd1
        have hdp0 := hdp
        obtain ⟨pt, v0, v1, v2, v, rfl, ht, ⟨⟩, ⟨⟩, ⟨⟩, hv⟩ := dp_t4 hdp
        obtain ⟨pv_, u0, u1, u2, u3, u4, u5, u6, u7, rfl, hpv, ⟨⟩, ⟨⟩, ⟨⟩, ⟨⟩, ⟨⟩, ⟨⟩, ⟨⟩, ⟨⟩⟩ := dp_t8 hv
        refine gnm5 rfl ?_
        refine ⟨_, rfl, pt, _, 3, _, rfl, rfl, ht, atI_nat (j := 3) rfl, pv_, _, 3, _, rfl, rfl, hpv, atI_nat (j := 3) rfl, _, rfl, sl, _, rfl, .inl (sql hs), rfl, flat_strs _, _, rfl, ?_⟩
        refine ifb2 (fun h1 => ?_) (fun h1 => ifbf rfl ⟨rfl, _, rfl, find_not h0 he ?_⟩)
        · have h1' : inV (.str t.st) (S.map V.str) = true := by simpa using h1
          refine ⟨_, rfl, pt, _, 3, _, rfl, rfl, ht, atI_nat (j := 3) rfl, pv_, _, 4, _, rfl, rfl, hpv, atI_nat (j := 4) rfl, _, rfl, rfl, _, rfl, ifd (fun h2 => ?_) (fun h2 => ifbf rfl ⟨rfl, _, rfl, find_not h0 he (by simp [firstB, h2])⟩)⟩
          refine ⟨_, rfl, pt, _, 0, _, rfl, rfl, ht, atI_nat (j := 0) rfl, _, rfl, c, _, rfl, .inl (sql hc), rfl, flat_strs _, _, rfl, ?_⟩
          refine ifb2 (fun h3 => ?_) (fun h3 => ⟨rfl, _, rfl, find_not h0 he ?_⟩)
          · have h3' : inV (.str t.nm) (hd.map V.str) = false := by simpa using h3
            refine ⟨_, rfl, q _ ?_⟩
            rw [find_at h0 he (by simp [firstB, h1', h2, h3'])]
            exact hdp0
          · have h3' : inV (.str t.nm) (hd.map V.str) = true := by simpa using h3
            simp [firstB, h3']
        · have h1' : inV (.str t.st) (S.map V.str) = false := by simpa using h1
          simp [firstB, h1']
    · rintro σ _ ⟨rfl, x4, rfl, h0⟩
      rw [hxl, List.take_length] at h0
      refine q _ ?_
      rw [h0]
      exact .non
theorem ok__law_entry (T : TX K mg) : FnOk P w K mg base CX0 3 T.a__law_entry T.d__law_entry ["script", "k"] (sp_entry K) := by
  refine T.F__law_entry.ok sc__law_entry (fun vs H Q E h => ?_) (fun cdv A outer s H vs Q E hr h => ?_)
  · obtain ⟨a, ns, k, rfl, _⟩ := h
    rfl
  · obtain ⟨a, ns, k, rfl, hS, hk, q⟩ := h
    refine ⟨_, (pss_cons (ps_set (i := 2) sc__law_entry.nd rfl (Or.inl rfl) (pe_lst (pa_cons pe_str (pa_cons pe_str (pa_cons pe_str (pa_cons pe_str (pa_cons pe_str (pa_cons pe_str pa_nil))))))))
      (pss_cons (ps_set (i := 3) sc__law_entry.nd rfl (Or.inl rfl) (pe_lst (pa_cons pe_str (pa_cons pe_str (pa_cons pe_str pa_nil)))))
      (pss_cons (ps_asg (pe_call (ok__law_digits T) (hr.mono (by decide)) (by rfl) T.g__law_digits T.F__law_digits.kp T.b__law_digits .nil pass0 (pa_cons (pv 0) (pa_cons (pv 1) (pa_cons (pe_lst (pa_cons pe_int (pa_cons pe_int (pa_cons pe_int (pa_cons pe_int (pa_cons pe_int (pa_cons pe_int pa_nil))))))) pa_nil)))) (pg_unl rfl (pgs_cons (pg_name (i := 4) sc__law_entry.nd rfl (Or.inl rfl)) (pgs_cons (pg_name (i := 5) sc__law_entry.nd rfl (Or.inl rfl)) (pgs_cons (pg_name (i := 6) sc__law_entry.nd rfl (Or.inl rfl)) (pgs_cons (pg_name (i := 7) sc__law_entry.nd rfl (Or.inl rfl)) (pgs_cons (pg_name (i := 8) sc__law_entry.nd rfl (Or.inl rfl)) (pgs_cons (pg_name (i := 9) sc__law_entry.nd rfl (Or.inl rfl)) pgs_nil))))))))
      (pss_cons (ps_set (i := 10) sc__law_entry.nd rfl (Or.inl rfl) (pe_op op_add_str (pe_op op_add_str pe_str (pe_callTy call_str_int (by rfl) T.n_str (by decide +kernel) (pa_cons (pe_op op_mod (pe_callTy call_int1 (by rfl) T.n_int (by decide +kernel) (pa_cons (pe_op op_mul pe_int (pv 1)) pa_nil)) pe_int) pa_nil))) pe_str))
      (pss_cons (ps_if (pt_cmpR op_eq (pv 8) pe_int (nomark _)) (pss_one (ps_ret (pe_tup (pa_cons pe_str (pa_cons (pe_op op_add_str pe_str (pe_callTy call_str_int (by rfl) T.n_str (by decide +kernel) (pa_cons (pv 1) pa_nil))) (pa_cons (pe_op op_add pe_int (pv 1)) (pa_cons (pe_op op_add pe_int (pv 1)) (pa_cons (pe_tup (pa_cons pe_int (pa_cons pe_int (pa_cons (pe_op op_add pe_int (pv 7)) (pa_cons pe_int (pa_cons pe_str pa_nil)))))) pa_nil)))))))) pss_nil)
      (pss_cons (ps_set (i := 11) sc__law_entry.nd rfl (Or.inl rfl) (pe_tup (pa_cons pe_int (pa_cons (pe_op op_add_str pe_str (pe_callTy call_str_int (by rfl) T.n_str (by decide +kernel) (pa_cons (pv 9) pa_nil))) (pa_cons (pv 9) (pa_cons (pe_ix ix_list (pv 2) (pv 4) (fun _ _ => rfl)) (pa_cons (pe_op op_fdiv (pv 5) pe_int) (pa_cons (pe_ix ix_list (pv 3) (pv 6) (fun _ _ => rfl)) (pa_cons (pe_op op_add pe_int (pv 7)) (pa_cons pe_str pa_nil))))))))))
      (pss_one (ps_ret (pe_tup (pa_cons pe_str (pa_cons (pv 10) (pa_cons (pe_op op_add pe_int (pv 1)) (pa_cons (pe_op op_add pe_int (pv 1)) (pa_cons (pv 11) pa_nil)))))))))))))), ?_⟩
    refine nrm12 rfl ?_
    refine ⟨(by show 6 ≤ sizeLine; decide), fun p1 h1 => ?_⟩
    have h1 : H p1 = none := h1
    have s1 := same_upd (o := .lst (([Str.ofString "new", Str.ofString "bound", Str.ofString "running", Str.ofString "ended", Str.ofString "running", Str.ofString "bound"] : List Str).map V.str)) h1
    have e1 := upd_same (H := H) (a := p1) (o := .lst (([Str.ofString "new", Str.ofString "bound", Str.ofString "running", Str.ofString "ended", Str.ofString "running", Str.ofString "bound"] : List Str).map V.str))
    refine (show gName 2 (V.ref p1) _ (upd H p1 (.lst (([Str.ofString "new", Str.ofString "bound", Str.ofString "running", Str.ofString "ended", Str.ofString "running", Str.ofString "bound"] : List Str).map V.str))) _ from ?_)
    generalize upd H p1 (.lst (([Str.ofString "new", Str.ofString "bound", Str.ofString "running", Str.ofString "ended", Str.ofString "running", Str.ofString "bound"] : List Str).map V.str)) = H1 at e1 s1
    refine gnm12 rfl ?_
    refine ⟨(by show 3 ≤ sizeLine; decide), fun p2 h2 => ?_⟩
    have s2 := same_upd (o := .lst (([Str.ofString "w1", Str.ofString "w2", Str.ofString "w10"] : List Str).map V.str)) h2
    have e2 := upd_same (H := H1) (a := p2) (o := .lst (([Str.ofString "w1", Str.ofString "w2", Str.ofString "w10"] : List Str).map V.str))
    have e1 := s2 _ _ e1
    have s12 := s1.trans s2
    refine (show gName 3 (V.ref p2) _ (upd H1 p2 (.lst (([Str.ofString "w1", Str.ofString "w2", Str.ofString "w10"] : List Str).map V.str))) _ from ?_)
    generalize upd H1 p2 (.lst (([Str.ofString "w1", Str.ofString "w2", Str.ofString "w10"] : List Str).map V.str)) = H2 at e1 e2 s12
    clear s1 s2 h1 h2
    refine gnm12 rfl ?_
    refine ⟨_, rfl, _, rfl, (by show 6 ≤ sizeLine; decide), fun z hz => ?_⟩
    have s3 := same_upd (o := .lst [.int 6, .int 3, .int 3, .int 3, .int 9, .int 8]) hz
    refine ⟨a, z, ns, [6, 3, 3, 3, 9, 8], _, rfl, (s12.trans s3).seq hS, ⟨by omega, by omega⟩, sql upd_same, by decide, (by simp), fun p H3 ds hp s4 e4 hd => ?_⟩
    obtain ⟨state, stop, node, life, kind, size, rfl, b1, b2, b3, b4, b5, b6⟩ := digs6 hd
    have s5 := s12.trans (s3.trans s4)
    have e1 := s4 _ _ (s3 _ _ e1)
    have e2 := s4 _ _ (s3 _ _ e2)
    clear s12 s3 s4 hz hp
    refine ⟨p, _, rfl, sql e4, rfl, _, _, rfl, _, _, rfl, _, _, rfl, _, _, rfl, _, _, rfl, _, _, rfl, rfl, ?_⟩
    refine nrm12 rfl ?_
    have hs := strI (i := (k : Int)) (by omega)
    have hs7 := strI (i := 7 * (k : Int) % 31) (by omega)
    have hsz := strI (i := size) (by omega)
    -- name
    refine ⟨_, rfl, _, _, rfl, rfl, .inl ⟨by decide, by decide⟩, .inl ⟨_, rfl, _, _, rfl, rfl, (by show (0 : Int) < _; decide), _, rfl, hs7.1, _, _, rfl, rfl, ?_, _, _, rfl, rfl, ?_, ?_⟩⟩
    · exact sz (by have := hs7.2; show 1 + _ ≤ 100000; omega)
    · refine sz ?_
      rw [slen_app]
      have := hs7.2
      show 1 + _ + 2 ≤ 100000
      omega
    have hnm : Str.ofString "s" ++ Str.ofString (toString (7 * (k : Int) % 31)) ++ Str.ofString "/0" = nm7 k := by
      unfold nm7
      rw [show (7 * (k : Int) % 31) = (((7 * k) % 31 : Nat) : Int) by omega]
    refine (show gName 10 (V.str (Str.ofString "s" ++ Str.ofString (toString (7 * (k : Int) % 31)) ++ Str.ofString "/0")) _ H3 _ from ?_)
    rw [hnm]
    refine gnm12 rfl ?_
    refine ⟨_, rfl, rfl, _, rfl, ifd (fun hc => ?_) (fun hc => ?_)⟩
    · refine ⟨_, rfl, _, rfl, hs.1, _, _, rfl, rfl, sz (by have := hs.2; show 1 + _ ≤ 100000; omega), _, rfl, _, _, rfl, rfl, _, rfl, _, _, rfl, rfl, _, rfl, _, _, rfl, rfl, (by show 5 ≤ sizeLine; decide), fun p5 h5 => ⟨(by show 5 ≤ sizeLine; decide), fun p6 h6 => ?_⟩⟩
      have n56 : p5 ≠ p6 := fun z => by rw [z, upd_same] at h6; cases h6
      refine q p6 (.node (Str.ofString "n" ++ Str.ofString (toString (k : Int))) (1 + k) (2 + k) (1 + life)) _ ((s5.trans (same_upd h5)).free h6) ((s5.trans (same_upd h5)).trans (same_upd h6)) ?_ fun G g => ?_
      · show PyData.strOk _ = true
        rw [ok_app, ok_numI (by omega)]
        decide +kernel
      · have g5 := g p5 _ (s5.free h5) (by rw [upd_ne n56, upd_same])
        have g6 := g p6 _ ((s5.trans (same_upd h5)).free h6) upd_same
        exact .tup (sqt g6) (.cons (.str _) (.cons (.str _) (.cons (.int _) (.cons (.int _) (.cons (.tup (sqt g5) (.cons (.int _) (.cons (.int _) (.cons (.int _) (.cons (.int _) (.cons (.str _) .nil)))))) .nil)))))
    obtain ⟨st, hst, hat⟩ := at_strs (zs := [Str.ofString "new", Str.ofString "bound", Str.ofString "running", Str.ofString "ended", Str.ofString "running", Str.ofString "bound"]) (i := state) b1.1 (by show state < 6; omega)
    obtain ⟨nd, hnd, hnat⟩ := at_strs (zs := [Str.ofString "w1", Str.ofString "w2", Str.ofString "w10"]) (i := node) b3.1 (by show node < 3; omega)
    refine ⟨_, rfl, _, rfl, hsz.1, _, _, rfl, rfl, sz (by have := hsz.2; show 4 + _ ≤ 100000; omega), _, rfl, _, rfl, _, rfl, p1, _, state, .str st, rfl, rfl, sql e1, hat, _, rfl, _, _, rfl, rfl, ⟨by decide, by decide⟩, _, rfl, _, rfl, p2, _, node, .str nd, rfl, rfl, sql e2, hnat, _, rfl, _, _, rfl, rfl, (by show 8 ≤ sizeLine; decide), fun p5 h5 => ?_⟩
    dsimp only
    have s6 := s5.trans (same_upd (o := .tup [.int 3, .str (Str.ofString "run " ++ Str.ofString (toString size)), .int size, .str st, .int (stop / 2), .str nd, .int (1 + life), .str ""]) h5)
    have e5 := upd_same (H := H3) (a := p5) (o := .tup [.int 3, .str (Str.ofString "run " ++ Str.ofString (toString size)), .int size, .str st, .int (stop / 2), .str nd, .int (1 + life), .str ""])
    have f5 := s5.free h5
    generalize upd H3 p5 (.tup [.int 3, .str (Str.ofString "run " ++ Str.ofString (toString size)), .int size, .str st, .int (stop / 2), .str nd, .int (1 + life), .str ""]) = H4 at s6 e5
    refine gnm12 rfl ?_
    refine ⟨_, rfl, _, rfl, _, _, rfl, rfl, _, rfl, _, _, rfl, rfl, _, rfl, (by show 5 ≤ sizeLine; decide), fun p6 h6 => ?_⟩
    have n56 : p5 ≠ p6 := ne_of_none e5 h6
    refine q p6 (.task ⟨nm7 k, 10 + k, 20 + k, Str.ofString "run " ++ Str.ofString (toString size), size, st, stop / 2, nd, 1 + life⟩) _ (s6.free h6) (s6.trans (same_upd h6)) ⟨nm7_in k, u31_ok _ (nm7_in k), ?_, st_ok st hst, nd_ok nd hnd⟩ fun G g => ?_
    · show PyData.strOk _ = true
      rw [ok_app, ok_numI (by omega)]
      decide +kernel
    · have g5 := g p5 _ f5 (by rw [upd_ne n56]; exact e5)
      have g6 := g p6 _ (s6.free h6) upd_same
      exact .tup (sqt g6) (.cons (.str _) (.cons (.str _) (.cons (.int _) (.cons (.int _) (.cons (.tup (sqt g5) (.cons (.int _) (.cons (.str _) (.cons (.int _) (.cons (.str _) (.cons (.int _) (.cons (.str _) (.cons (.int _) (.cons (.str _) .nil))))))))) .nil)))))
end
theorem sel_more {es : List E7} {i : Nat} {e : E7} (nd : Str) (lf : Int) (h : es[i]? = some e) : sel (es.take (i + 1)) nd lf = sel (es.take i) nd lf ++ ((taskOf e).toList.filter (mineT nd lf)) := by
  unfold sel
  rw [take_more h, List.filterMap_append, List.filter_append]
  congr 1
theorem sel_len (es : List E7) (nd : Str) (lf : Int) : (sel es nd lf).length ≤ es.length := by
  unfold sel
  exact Nat.le_trans (List.length_filter_le _ _) (List.length_filterMap_le _ _)
theorem srt_len (es : List E7) (nd : Str) (lf : Int) : (srt es nd lf).length ≤ es.length := by
  unfold srt
  rw [List.length_mergeSort]
  exact sel_len es nd lf
theorem srt_ok {es : List E7} {nd : Str} {lf : Int} (h : ∀ e ∈ es, ok7 e) : ∀ t ∈ srt es nd lf, okT t := fun t ht => by
  have h1 : t ∈ sel es nd lf := (List.mergeSort_perm _ _).mem_iff.mp ht
  obtain ⟨e, he, hte⟩ := List.mem_filterMap.mp (List.mem_filter.mp h1).1
  cases e with
  | node n a b lf => cases hte
  | task t2 =>
    cases hte
    exact h _ he
theorem optD_flat {o : Option T4} (h : ∀ t, o = some t → okT t) : Flat 2 (optD o) := by
  cases o with
  | none => exact flat_non _
  | some t => exact flatT7 (h t rfl)
section
variable {P : Program} {w : World} {K : PySem.W.Frag} {mg : Str → Option Value} {base : Heap}
theorem ok__law_one (T : TX K mg) : FnOk P w K mg base CX0 3 T.a__law_one T.d__law_one ["entries", "node", "life", "runs", "confirmed", "held"] (sp_one K T.a_Runs) := by
  refine T.F__law_one.ok sc__law_one (fun vs H Q E h => ?_) (fun cdv A outer s H vs Q E hr h => ?_)
  · obtain ⟨l, p, ab, cc, hc, nd, lf, xs, es, f, cf, hd, rfl, _⟩ := h
    rfl
  · obtain ⟨l, p, ab, cc, hc, nd, lf, xs, es, f, cf, hd, rfl, hl, hx, hel, hok, hA, hcc, hhc, q⟩ := h
    refine ⟨_, (pss_cons (ps_set (i := 6) sc__law_one.nd rfl (Or.inl rfl) (pe_lst pa_nil))
      (pss_cons (ps_for PassesOwn.never rfl (pi_list (pv 0)) (pg_tup (by rfl) (pgs_cons (pg_name (i := 7) sc__law_one.nd rfl (Or.inl rfl)) (pgs_cons (pg_name (i := 8) sc__law_one.nd rfl (Or.inl rfl)) (pgs_cons (pg_name (i := 9) sc__law_one.nd rfl (Or.inl rfl)) (pgs_cons (pg_name (i := 10) sc__law_one.nd rfl (Or.inl rfl)) (pgs_cons (pg_name (i := 11) sc__law_one.nd rfl (Or.inl rfl)) pgs_nil))))))
        (pss_one (ps_if (PW.pt (pw_and (pt_cmpR op_eq (pv 7) pe_str (nomark _)) (pw_and (pt_cmpR op_eq (pe_ix ix_tup (pv 11) pe_int (fun _ _ => rfl)) (pv 1) (nomark _)) (pw_and1 (pt_cmpR op_eq (pe_ix ix_tup (pv 11) pe_int (fun _ _ => rfl)) (pv 2) (nomark _)))))) (pss_one (ps_expr (pe_bm PySem.F.plainAttrs_list PySem.F.slot_list_append PySem.F.type_list_append mt_append (pv 6) (pa_cons (pe_tup (pa_cons (pv 8) (pa_cons (pv 9) (pa_cons (pv 10) (pa_cons (pv 11) pa_nil))))) pa_nil)))) pss_nil)))
      (pss_cons (ps_set (i := 6) sc__law_one.nd rfl (Or.inl rfl) (pe_callB (cr_sortedD hr.units) (by rfl) T.n_sorted (by decide +kernel) (pa_cons (pv 6) pa_nil)))
      (pss_cons (ps_if (pt_cmpR (op_neD hr.units) (pe_call (ok_tasks_of T) (hr.mono (by decide)) (by rfl) T.g_tasks_of T.F_tasks_of.kp T.b_tasks_of .nil pass0 (pa_cons (pv 0) (pa_cons (pv 1) (pa_cons (pv 2) pa_nil)))) (pv 6) (nomark _)) (pss_one (ps_ret pe_bl)) pss_nil)
      (pss_cons (ps_set (i := 12) sc__law_one.nd rfl (Or.inl rfl) (pe_lst pa_nil))
      (pss_cons (ps_for PassesOwn.never rfl (pi_list (pv 6)) (pg_tup (by rfl) (pgs_cons (pg_name (i := 8) sc__law_one.nd rfl (Or.inl rfl)) (pgs_cons (pg_name (i := 9) sc__law_one.nd rfl (Or.inl rfl)) (pgs_cons (pg_name (i := 10) sc__law_one.nd rfl (Or.inl rfl)) (pgs_cons (pg_name (i := 11) sc__law_one.nd rfl (Or.inl rfl)) pgs_nil)))))
        (pss_one (ps_if (PW.pt (pw_and (pt_cmpR op_eq (pe_ix ix_tup (pv 11) pe_int (fun _ _ => rfl)) pe_str (nomark _)) (pw_and (pt_cmpR op_eq (pe_ix ix_tup (pv 11) pe_int (fun _ _ => rfl)) pe_int (nomark _)) (pw_and (pt_cmpR op_notIn_seq (pv 8) (pe_meth0 (pv 3) T.K_Runs T.m_Runs_slots (ok_Runs_slots T) (hr.mono (by decide)) T.b_Runs_slots .nil pass0) rfl) (pw_and1 (pt_cmpR op_notIn_seq (pv 9) (pv 4) rfl)))))) (pss_one (ps_expr (pe_bm PySem.F.plainAttrs_list PySem.F.slot_list_append PySem.F.type_list_append mt_append (pv 12) (pa_cons (pe_tup (pa_cons (pv 8) (pa_cons (pv 9) (pa_cons (pe_ix ix_tup (pv 11) pe_int (fun _ _ => rfl)) (pa_cons (pe_ix ix_tup (pv 11) pe_int (fun _ _ => rfl)) pa_nil))))) pa_nil)))) pss_nil)))
      (pss_cons (ps_if (pt_cmpR (op_neD hr.units) (pe_call (ok_to_run T) (hr.mono (by decide)) (by rfl) T.g_to_run T.F_to_run.kp T.b_to_run .nil pass0 (pa_cons (pv 6) (pa_cons (pv 3) (pa_cons (pv 4) pa_nil)))) (pv 12) (nomark _)) (pss_one (ps_ret pe_bl)) pss_nil)
      (pss_cons (ps_if (pt_cmpR (op_neD hr.units) (pe_call (ok_next_start T) (hr.mono (by decide)) (by rfl) T.g_next_start T.F_next_start.kp T.b_next_start .nil pass0 (pa_cons (pv 6) (pa_cons (pv 5) pa_nil))) (pe_call (ok__law_first T) (hr.mono (by decide)) (by rfl) T.g__law_first T.F__law_first.kp T.b__law_first .nil pass0 (pa_cons (pv 6) (pa_cons (pe_lst (pa_cons pe_str pa_nil)) (pa_cons pe_int (pa_cons (pv 5) pa_nil))))) (nomark _)) (pss_one (ps_ret pe_bl)) pss_nil)
      (pss_one (ps_ret (pe_cmpR (op_eqD hr.units) (pe_call (ok_next_end T) (hr.mono (by decide)) (by rfl) T.g_next_end T.F_next_end.kp T.b_next_end .nil pass0 (pa_cons (pv 6) (pa_cons (pv 5) pa_nil))) (pe_call (ok__law_first T) (hr.mono (by decide)) (by rfl) T.g__law_first T.F__law_first.kp T.b__law_first .nil pass0 (pa_cons (pv 6) (pa_cons (pe_lst (pa_cons pe_str (pa_cons pe_str pa_nil))) (pa_cons pe_int (pa_cons (pv 5) pa_nil))))) (nomark _)))))))))))), ?_⟩
    have hxl : xs.length = es.length := by have := dpa_len hx; rwa [List.length_map] at this
    obtain ⟨dx, ob⟩ := hA.ob
    refine nrm13 rfl ?_
    refine ⟨Nat.zero_le _, fun R hR => ?_⟩
    refine gnm13 rfl ?_
    refine ⟨_, rfl, l, rfl, ⟨_, sql (same_upd hR _ _ hl)⟩, for_list (K := K) (a := l) (xs := xs) (fun i σ G => ∃ x7 x8 x9 x10 x11 rs, σ = [some (.ref l), some (.str nd), some (.int lf), some (.ref p), some (.ref cc), some (.ref hc), some (.ref R), x7, x8, x9, x10, x11, none] ∧ Same H G ∧ G R = some (.lst rs) ∧ (∀ G'', Same H G'' → Off R G G'' → DpAll K G'' rs ((sel (es.take i) nd lf).map T4.d)))
      ⟨none, none, none, none, none, [], rfl, same_upd hR, upd_same, fun _ _ _ => .nil⟩ (fun i σ G _ ⟨_, _, _, _, _, _, _, h, _⟩ => sql (h _ _ hl)) ?_ ?_⟩
    · rintro i x σ G hxi ⟨x7, x8, x9, x10, x11, rs, rfl, g1, g2, g3⟩
      obtain ⟨d, hd1, hdp⟩ := dpa_at hx hxi
      rw [List.getElem?_map] at hd1
      cases he : es[i]? with
      | none => rw [he] at hd1; cases hd1
      | some e =>
        rw [he] at hd1
        cases hd1
        have hsm := sel_more nd lf he
        cases e with
        | node n a b lf2 =>
          obtain ⟨pe, v0, v1, v2, v3, v, rfl, ht, ⟨⟩, ⟨⟩, ⟨⟩, ⟨⟩, hv⟩ := dp_t5 hdp
          have ht := sqt_same g1 ht
          refine ⟨pe, _, rfl, ht, rfl, _, _, rfl, _, _, rfl, _, _, rfl, _, _, rfl, _, _, rfl, rfl, ?_⟩
          refine nrm13 rfl ?_
          refine ⟨_, rfl, rfl, _, rfl, iff0 (by decide +kernel) (ifbf rfl ⟨_, _, _, _, _, rs, rfl, g1, g2, ?_⟩)⟩
          rw [hsm]
          simpa [taskOf] using g3
        | task t =>
          obtain ⟨pe, v0, v1, v2, v3, v, rfl, ht, ⟨⟩, ⟨⟩, ⟨⟩, ⟨⟩, hv⟩ := dp_t5 hdp
          have hv0 := hv
          obtain ⟨pv_, u0, u1, u2, u3, u4, u5, u6, u7, rfl, hpv, ⟨⟩, ⟨⟩, ⟨⟩, ⟨⟩, ⟨⟩, ⟨⟩, ⟨⟩, ⟨⟩⟩ := dp_t8 hv
          have ht := sqt_same g1 ht
          have hpv := sqt_same g1 hpv
          refine ⟨pe, _, rfl, ht, rfl, _, _, rfl, _, _, rfl, _, _, rfl, _, _, rfl, _, _, rfl, rfl, ?_⟩
          refine nrm13 rfl ?_
          have skip : mineT nd lf t = false → (∀ G'', Same H G'' → Off R G G'' → DpAll K G'' rs ((sel (es.take (i + 1)) nd lf).map T4.d)) := fun h => by
            rw [hsm]
            have : (taskOf (.task t)).toList.filter (mineT nd lf) = [] := by simp [taskOf, h]
            rw [this, List.append_nil]
            exact g3
          refine ⟨_, rfl, rfl, _, rfl, ift rfl ?_⟩
          refine ⟨_, rfl, pv_, _, 5, _, rfl, rfl, hpv, atI_nat (j := 5) rfl, _, rfl, rfl, _, rfl, ifd (fun h1 => ?_) (fun h1 => ifbf rfl ⟨_, _, _, _, _, rs, rfl, g1, g2, skip (by simp [mineT, h1])⟩)⟩
          refine ⟨_, rfl, pv_, _, 6, _, rfl, rfl, hpv, atI_nat (j := 6) rfl, _, rfl, rfl, _, rfl, ifd (fun h2 => ?_) (fun h2 => ⟨_, _, _, _, _, rs, rfl, g1, g2, skip (by simp [mineT, h2])⟩)⟩
          refine ⟨_, rfl, .inl ⟨rfl, _, sql g2⟩, _, rfl, _, rfl, _, rfl, _, rfl, (by show 4 ≤ sizeLine; decide), fun u hu => ?_⟩
          have hl1 : rs.length = (sel (es.take i) nd lf).length := by have := dpa_len (g3 G g1 (Off.refl _ _)); rwa [List.length_map] at this
          have hl2 : (sel (es.take i) nd lf).length ≤ es.length := Nat.le_trans (sel_len _ _ _) (by rw [List.length_take]; omega)
          have nuR : R ≠ u := ne_of_none g2 hu
          refine ⟨R, rs, _, rfl, rfl, by rw [upd_ne nuR]; exact g2, szl (by omega), ?_⟩
          refine ⟨_, _, _, _, _, rs ++ [.ref u], rfl, same_put (g1.trans (same_upd hu)) hR, upd_same, fun G'' s9 o => ?_⟩
          have hm : (taskOf (.task t)).toList.filter (mineT nd lf) = [t] := by simp [taskOf, mineT, h1, h2]
          rw [hsm, hm, List.map_append]
          refine dpa_app (g3 G'' s9 (Off.pre (same_upd hu) o.put)) (.cons (.tup (sqt (o.put u _ nuR.symm upd_same)) (.cons (.str _) (.cons (.int _) (.cons (.int _) (.cons (dp_same s9 _ hv0) .nil))))) .nil)
    rintro σ G ⟨x7, x8, x9, x10, x11, rs, rfl, g1, g2, g3⟩
    rw [hxl, List.take_length] at g3
    have hrs := g3 G g1 (Off.refl _ _)
    refine nrm13 rfl ?_
    -- sorted
    refine ⟨_, rfl, R, rs, _, rfl, sql g2, hrs, t4_alike _, t4_sortable _, t4_depth _, fun ws W hW hws _ => ?_⟩
    rw [t4_sort] at hws
    have s2 := same_upd (o := .lst ws) hW
    have eW := upd_same (H := G) (a := W) (o := .lst ws)
    have dW : DpAll K (upd G W (.lst ws)) ws ((srt es nd lf).map T4.d) := dpa_same s2 _ hws
    have s3 := g1.trans s2
    generalize upd G W (.lst ws) = G1 at s3 eW dW
    clear s2 hws hrs g3 g2 g1 hR hW
    refine gnm13 rfl ?_
    have hto := srt_ok (nd := nd) (lf := lf) hok
    have hlen := srt_len es nd lf
    generalize hts : srt es nd lf = ts at dW hto hlen
    have fT : Flat 3 (.list (ts.map T4.d)) := flat_list (n := 2) fun d hd => by
      obtain ⟨t, ht, rfl⟩ := List.mem_map.mp hd
      exact flatT7 (hto t ht)
    -- tasks_of
    refine ⟨_, rfl, _, rfl, _, rfl, l, xs, es, nd, lf, rfl, sql (s3 _ _ hl), dpa_same s3 _ hx, by omega, fun P1 G2 ys1 s4 e4 d4 => ?_⟩
    rw [hts] at d4
    have eW := s4 _ _ eW
    have dW := dpa_same s4 _ dW
    have s5 := s3.trans s4
    refine ⟨_, rfl, _, _, .lst (sql e4) d4, .lst (sql eW) dW, fT.sh (by decide), fT.sh (by decide), _, rfl, ifbf (by rw [eqv_self (fT.sh (by decide))]; rfl) ?_⟩
    clear s3 s4 e4 d4
    -- rows
    refine ⟨Nat.zero_le _, fun F hF => ?_⟩
    refine gnm13 rfl ?_
    have hwl : ws.length = ts.length := by have := dpa_len dW; rwa [List.length_map] at this
    refine ⟨_, rfl, W, rfl, ⟨_, sql (same_upd hF _ _ eW)⟩, for_list (K := K) (a := W) (xs := ws) (fun i σ G => ∃ x8 x9 x10 x11 rs, σ = [some (.ref l), some (.str nd), some (.int lf), some (.ref p), some (.ref cc), some (.ref hc), some (.ref W), x7, x8, x9, x10, x11, some (.ref F)] ∧ Same G2 G ∧ G F = some (.lst rs) ∧ (∀ G'', Same G2 G'' → Off F G G'' → DpAll K G'' rs (((ts.take i).filter (goB f cf)).map runD)))
      ⟨_, _, _, _, [], rfl, same_upd hF, upd_same, fun _ _ _ => .nil⟩ (fun i σ G _ ⟨_, _, _, _, _, _, h, _⟩ => sql (h _ _ eW)) ?_ ?_⟩
    · rintro i x σ G hxi ⟨x8, x9, x10, x11, rs, rfl, g1, g2, g3⟩
      obtain ⟨d, hd1, hdp⟩ := dpa_at dW hxi
      rw [List.getElem?_map] at hd1
      cases he : ts[i]? with
      | none => rw [he] at hd1; cases hd1
      | some t =>
        rw [he] at hd1
        cases hd1
        obtain ⟨pt, v0, v1, v2, v, rfl, ht, ⟨⟩, ⟨⟩, ⟨⟩, hv⟩ := dp_t4 hdp
        obtain ⟨pv_, u0, u1, u2, u3, u4, u5, u6, u7, rfl, hpv, ⟨⟩, ⟨⟩, ⟨⟩, ⟨⟩, ⟨⟩, ⟨⟩, ⟨⟩, ⟨⟩⟩ := dp_t8 hv
        have ht := sqt_same g1 ht
        have hpv := sqt_same g1 hpv
        have s1g := s5.trans g1
        refine ⟨pt, _, rfl, ht, rfl, _, _, rfl, _, _, rfl, _, _, rfl, _, _, rfl, rfl, ?_⟩
        refine nrm13 rfl ?_
        have skip : goB f cf t = false → (∀ G'', Same G2 G'' → Off F G G'' → DpAll K G'' rs (((ts.take (i + 1)).filter (goB f cf)).map runD)) := fun h => by
          rw [tf_no he h]
          exact g3
        refine ⟨_, rfl, pv_, _, 3, _, rfl, rfl, hpv, atI_nat (j := 3) rfl, rfl, _, rfl, ifd (fun h1 => ?_) (fun h1 => ifbf rfl ⟨_, _, _, _, rs, rfl, g1, g2, skip (by simp [goB, h1])⟩)⟩
        refine ⟨_, rfl, pv_, _, 4, _, rfl, rfl, hpv, atI_nat (j := 4) rfl, rfl, _, rfl, ifd (fun h2 => ?_) (fun h2 => ifbf rfl ⟨_, _, _, _, rs, rfl, g1, g2, skip (by simp [goB, h2])⟩)⟩
        refine ⟨_, rfl, _, rfl, p, dx, _, rfl, s1g _ _ ob, fl_Runs_no_slots, p, ab, f, rfl, hA.same s1g, fun ys R2 G3 hO hR2 s8 eR2 => ?_⟩
        have g4 := g1.trans s8
        have g5 := s8 _ _ g2
        have hpv := sqt_same s8 hpv
        refine ⟨R2, _, rfl, .inl (sql eR2), rfl, flat_strs _, _, rfl, ?_⟩
        have hin : inV (.str t.nm) (ys.map V.str) = (f t.nm).isSome := by
          rw [inV_str, Bool.eq_iff_iff, decide_eq_true_iff]
          exact hO.2.2 t.nm
        have skip3 : goB f cf t = false → (∀ G'', Same G2 G'' → Off F G3 G'' → DpAll K G'' rs (((ts.take (i + 1)).filter (goB f cf)).map runD)) := fun h G'' s9 o => skip h G'' s9 (Off.pre s8 o)
        refine ifb2 (fun h3 => ?_) (fun h3 => ifbf rfl ⟨_, _, _, _, rs, rfl, g4, g5, skip3 ?_⟩)
        · have h3' : (f t.nm).isSome = false := by rw [← hin]; simpa using h3
          refine ⟨_, rfl, _, rfl, cc, _, rfl, .inl (sql ((s5.trans g4) _ _ hcc)), rfl, flat_ints' _, _, rfl, ?_⟩
          refine ifb2 (fun h4 => ?_) (fun h4 => ⟨_, _, _, _, rs, rfl, g4, g5, skip3 ?_⟩)
          · have h4' : inV (.int t.bn) (cf.map V.int) = false := by simpa using h4
            refine ⟨_, rfl, .inl ⟨rfl, _, sql g5⟩, _, rfl, _, rfl, _, rfl, pv_, _, 1, _, rfl, rfl, hpv, atI_nat (j := 1) rfl, _, rfl, pv_, _, 2, _, rfl, rfl, hpv, atI_nat (j := 2) rfl, (by show 4 ≤ sizeLine; decide), fun u hu => ?_⟩
            have hl1 : rs.length = ((ts.take i).filter (goB f cf)).length := by have := dpa_len (g3 G g1 (Off.refl _ _)); rwa [List.length_map] at this
            have hl2 : ((ts.take i).filter (goB f cf)).length ≤ ts.length := Nat.le_trans (List.length_filter_le _ _) (by rw [List.length_take]; omega)
            have nuF : F ≠ u := ne_of_none g5 hu
            refine ⟨F, rs, _, rfl, rfl, by rw [upd_ne nuF]; exact g5, szl (by omega), ?_⟩
            refine ⟨_, _, _, _, rs ++ [.ref u], rfl, same_put (g4.trans (same_upd hu)) hF, upd_same, fun G'' s9 o => ?_⟩
            have hg : goB f cf t = true := by simp [goB, h1, h2, h3', h4']
            rw [take_filter _ he, hg, List.map_append]
            refine dpa_app (g3 G'' s9 (Off.pre (s8.trans (same_upd hu)) o.put)) (.cons (.tup (sqt (o.put u _ nuF.symm upd_same)) (.cons (.str _) (.cons (.int _) (.cons (.str _) (.cons (.int _) .nil))))) .nil)
          · have h4' : inV (.int t.bn) (cf.map V.int) = true := by simpa using h4
            simp [goB, h4']
        · have h3' : (f t.nm).isSome = true := by rw [← hin]; simpa using h3
          simp [goB, h3']
    rintro σ G ⟨x8, x9, x10, x11, rs, rfl, g1, g2, g3⟩
    rw [hwl, List.take_length] at g3
    have hrs := g3 G g1 (Off.refl _ _)
    have s6 := s5.trans g1
    have eW := g1 _ _ eW
    have dW := dpa_same g1 _ dW
    have fR : Flat 2 (.list ((ts.filter (goB f cf)).map runD)) := flat_list (n := 1) fun d hd => by
      obtain ⟨t, ht, rfl⟩ := List.mem_map.mp hd
      exact flatR7 (hto t (List.mem_filter.mp ht).1)
    refine nrm13 rfl ?_
    refine ⟨_, rfl, _, rfl, _, rfl, W, p, ab, cc, ws, ts, f, cf, rfl, sql eW, dW, by omega, hA.same s6, s6 _ _ hcc, fun q1 G3 ys3 s7 e7 d7 => ?_⟩
    have hrs := dpa_same s7 _ hrs
    refine ⟨_, rfl, _, _, .lst (sql e7) d7, .lst (sql (s7 _ _ g2)) hrs, fR.sh (by decide), fR.sh (by decide), _, rfl, ifbf (by rw [eqv_self (fR.sh (by decide))]; rfl) ?_⟩
    have s8 := s6.trans s7
    have eW := s7 _ _ eW
    have dW := dpa_same s7 _ dW
    clear s5 s6 s7 g1 g2 g3 hrs e7 d7 hF
    have fO : ∀ B : T4 → Bool, Flat 2 (optD (ts.find? B)) := fun B => optD_flat fun t ht => hto t (List.mem_of_find?_eq_some ht)
    refine nrm13 rfl ?_
    -- next_start
    refine ⟨_, rfl, _, rfl, W, hc, ws, ts, hd, rfl, sql eW, dW, s8 _ _ hhc, fun v1 G4 s9 d9 => ?_⟩
    have eW := s9 _ _ eW
    have dW := dpa_same s9 _ dW
    have s10 := s8.trans s9
    refine ⟨_, rfl, (by show 1 ≤ sizeLine; decide), fun z hz => ?_⟩
    have s11 := same_upd (o := .lst ([Str.ofString "bound"].map V.str)) hz
    refine ⟨_, rfl, W, z, hc, ws, ts, [Str.ofString "bound"], hd, 0, rfl, sql (s11 _ _ eW), dpa_same s11 _ dW, s11 _ _ (s10 _ _ hhc), upd_same, fun v2 d2 => ?_⟩
    rw [← start_first] at d2
    refine ⟨_, _, dp_same s11 _ d9, d2, (fO _).sh (by decide), (fO _).sh (by decide), _, rfl, ifbf (by rw [eqv_self ((fO _).sh (by decide))]; rfl) ?_⟩
    have s12 := s10.trans s11
    have eW := s11 _ _ eW
    have dW := dpa_same s11 _ dW
    -- next_end
    refine ⟨_, rfl, _, rfl, W, hc, ws, ts, hd, rfl, sql eW, dW, s12 _ _ hhc, fun v1 G6 s9 d9 => ?_⟩
    have eW := s9 _ _ eW
    have dW := dpa_same s9 _ dW
    have s10 := s12.trans s9
    refine ⟨_, rfl, (by show 2 ≤ sizeLine; decide), fun z hz => ?_⟩
    have s11 := same_upd (o := .lst ([Str.ofString "bound", Str.ofString "running"].map V.str)) hz
    refine ⟨_, rfl, W, z, hc, ws, ts, [Str.ofString "bound", Str.ofString "running"], hd, 1, rfl, sql (s11 _ _ eW), dpa_same s11 _ dW, s11 _ _ (s10 _ _ hhc), upd_same, fun v2 d2 => ?_⟩
    rw [← end_first] at d2
    refine ⟨_, _, dp_same s11 _ d9, d2, (fO _).sh (by decide), (fO _).sh (by decide), ?_⟩
    rw [eqv_self ((fO _).sh (by decide))]
    exact q _ (s10.trans s11)
end
theorem Fr.put {L : List Addr} {H G : Hp} {c : Addr} {o : HO} (h : Fr L H G) (hc : H c = none) : Fr L H (upd G c o) := fun x u e n => by
  rw [upd_ne (ne_of_none e hc)]
  exact h x u e n
theorem dps_make {K : PySem.W.Frag} {H : Hp} : ∀ ys : List Str, DpAll K H (ys.map V.str) (ys.map PyData.str)
  | [] => .nil
  | y :: ys => .cons (.str y) (dps_make ys)
theorem same_new {H H' : Hp} {p dx : Addr} {o u : HO} (hp : H p = none) (hd : H dx = none) (f : Fr [p] (upd (upd H dx o) p u) H') : Same H H' := fun x v hx => by
  have n1 : x ≠ p := ne_of_none hx hp
  refine f x v ?_ (by simp [n1])
  rw [upd_ne n1, upd_ne (ne_of_none hx hd)]
  exact hx
theorem e7_parts {K : PySem.W.Frag} {H : Hp} {x : V} {e : E7} (h : Dp K H x e.d) : ∃ pe v3 v4, x = .ref pe ∧ SqT K H pe [.str (match e with | .node _ _ _ _ => "node" | .task _ => "task"), .str e.nm, .int e.bn, v3, v4] := by
  cases e with
  | node n a b lf =>
    obtain ⟨pe, v0, v1, v2, v3, v, rfl, ht, ⟨⟩, ⟨⟩, ⟨⟩, hv3, hv⟩ := dp_t5 h
    exact ⟨pe, _, _, rfl, ht⟩
  | task t =>
    obtain ⟨pe, v0, v1, v2, v3, v, rfl, ht, ⟨⟩, ⟨⟩, ⟨⟩, hv3, hv⟩ := dp_t5 h
    exact ⟨pe, _, _, rfl, ht⟩
/-- the runs, what is confirmed, what is held -/
structure S7 (C : Addr) (H4 G : Hp) (p ab c5 c6 : Addr) (f : IM) (cf : List Int) (hd : List Str) (n : Nat) : Prop where
  fr : Fr [p, ab] H4 G
  hA : RAt C G p ab f
  e5 : G c5 = some (.lst (cf.map V.int))
  e6 : G c6 = some (.lst (hd.map V.str))
  l5 : cf.length ≤ n
  l6 : hd.length ≤ n
theorem S7.same {C : Addr} {H4 G G' : Hp} {p ab c5 c6 : Addr} {f : IM} {cf : List Int} {hd : List Str} {n : Nat} (h : S7 C H4 G p ab c5 c6 f cf hd n) (s : Same G G') : S7 C H4 G' p ab c5 c6 f cf hd n :=
  ⟨h.fr.trans (Fr.of_same s), h.hA.same s, s _ _ h.e5, s _ _ h.e6, h.l5, h.l6⟩
theorem RAt.put {C : Addr} {H : Hp} {p ab c : Addr} {f : IM} {o : HO} (h : RAt C H p ab f) (n1 : p ≠ c) (n2 : ab ≠ c) : RAt C (upd H c o) p ab f := by
  obtain ⟨⟨dx, ob⟩, ⟨k, e, d⟩⟩ := h
  exact ⟨⟨dx, by rw [upd_ne n1]; exact ob⟩, ⟨k, by rw [upd_ne n2]; exact e, d⟩⟩
section
variable {P : Program} {w : World} {K : PySem.W.Frag} {mg : Str → Option Value} {base : Heap}
theorem ok_law (T : TX K mg) : FnOk P w K mg base CX0 4 T.a_law T.d_law ["script"] (sp_law K) := by
  refine T.F_law.ok sc_law (fun vs H Q E h => ?_) (fun cdv A outer s H vs Q E hr h => ?_)
  · obtain ⟨a, ns, rfl, _⟩ := h
    rfl
  · obtain ⟨A0, ns, rfl, hS, hlen, q⟩ := h
    refine ⟨_, (pss_cons (ps_set (i := 1) sc_law.nd rfl (Or.inl rfl) (pe_ix ix_list (pe_call (ok__law_digits T) (hr.mono (by decide)) (by rfl) T.g__law_digits T.F__law_digits.kp T.b__law_digits .nil pass0 (pa_cons (pv 0) (pa_cons pe_int (pa_cons (pe_lst (pa_cons pe_int pa_nil)) pa_nil)))) pe_int (fun _ _ => rfl)))
      (pss_cons (ps_setLc (i := 2) (own := [("k", 7)]) (g := gName 7) (tt := tYes) (by rfl) sc_law.nd rfl rfl (sw_true rfl rfl rfl (by decide +kernel)) (pi_range1 (by rfl) T.n_range (pa_cons (pv 1) pa_nil)) (blkOk_by (own := [("k", 7)]) (N := ["script", "size", "entries", "kept", "runs", "confirmed", "held", "k", "use", "slots", "node", "life", "entry"]) (sc := defScope s_law) (by decide +kernel)) (fun _ _ _ _ _ => pg_name (i := 7) sc_law.nd rfl (Or.inl rfl)) (fun _ _ _ _ _ => pts_nil) (fun _ _ _ _ _ => (pe_call (ok__law_entry T) (hr.mono (by decide)) (by rfl) T.g__law_entry T.F__law_entry.kp T.b__law_entry .nil pass0 (pa_cons (pv 0) (pa_cons (pe_op op_add pe_int (pv 7)) pa_nil)))))
      (pss_cons (ps_setLc (i := 3) (own := [("entry", 12)]) (g := gName 12) (tt := tYes) (by rfl) sc_law.nd rfl rfl (sw_true rfl rfl rfl (by decide +kernel)) (pi_list (pv 2)) (blkOk_by (own := [("entry", 12)]) (N := ["script", "size", "entries", "kept", "runs", "confirmed", "held", "k", "use", "slots", "node", "life", "entry"]) (sc := defScope s_law) (by decide +kernel)) (fun _ _ _ _ _ => pg_name (i := 12) sc_law.nd rfl (Or.inl rfl)) (fun _ _ _ _ _ => pts_nil) (fun _ _ _ _ _ => (pv 12)))
      (pss_cons (ps_set (i := 4) sc_law.nd rfl (Or.inl rfl) (pe_make0 T.M_Runs (ok_Runs___init__ T) (hr.mono (by decide)) (by rfl) T.g_Runs T.b_Runs___init__ .nil pass0))
      (pss_cons (ps_set (i := 5) sc_law.nd rfl (Or.inl rfl) (pe_lst pa_nil))
      (pss_cons (ps_set (i := 6) sc_law.nd rfl (Or.inl rfl) (pe_lst pa_nil))
      (pss_cons (ps_for PassesOwn.never rfl (pi_range1 (by rfl) T.n_range (pa_cons (pv 1) pa_nil)) (pg_name (i := 7) sc_law.nd rfl (Or.inl rfl))
        (pss_cons (ps_set (i := 8) sc_law.nd rfl (Or.inl rfl) (pe_call (ok__law_digits T) (hr.mono (by decide)) (by rfl) T.g__law_digits T.F__law_digits.kp T.b__law_digits .nil pass0 (pa_cons (pv 0) (pa_cons (pe_op op_add pe_int (pv 7)) (pa_cons (pe_lst (pa_cons pe_int (pa_cons pe_int (pa_cons pe_int pa_nil)))) pa_nil)))))
        (C8.pss_cut (ps_if (PW.pt (pw_and (pt_cmpR op_eq (pe_ix ix_list (pv 8) pe_int (fun _ _ => rfl)) pe_int (nomark _)) (pw_and1 (pt_cmpR op_eq (pe_ix ix_tup (pe_ix ix_list (pv 2) (pv 7) (fun _ _ => rfl)) pe_int (fun _ _ => rfl)) pe_str (nomark _))))) (pss_one (ps_expr (pe_meth (pv 4) T.K_Runs T.m_Runs_begin (ok_Runs_begin T) (hr.mono (by decide)) T.b_Runs_begin .nil pass0 (pa_cons (pe_ix ix_tup (pe_ix ix_list (pv 2) (pv 7) (fun _ _ => rfl)) pe_int (fun _ _ => rfl)) (pa_cons pe_int pa_nil))))) pss_nil)
        (C8.pss_cut (ps_if (pt_cmpR op_eq (pe_ix ix_list (pv 8) pe_int (fun _ _ => rfl)) pe_int (nomark _)) (pss_one (ps_expr (pe_bm PySem.F.plainAttrs_list PySem.F.slot_list_append PySem.F.type_list_append mt_append (pv 5) (pa_cons (pe_ix ix_tup (pe_ix ix_list (pv 2) (pv 7) (fun _ _ => rfl)) pe_int (fun _ _ => rfl)) pa_nil)))) pss_nil)
        (pss_one (ps_if (pt_cmpR op_eq (pe_ix ix_list (pv 8) pe_int (fun _ _ => rfl)) pe_int (nomark _)) (pss_one (ps_expr (pe_bm PySem.F.plainAttrs_list PySem.F.slot_list_append PySem.F.type_list_append mt_append (pv 6) (pa_cons (pe_ix ix_tup (pe_ix ix_list (pv 2) (pv 7) (fun _ _ => rfl)) pe_int (fun _ _ => rfl)) pa_nil)))) pss_nil))))))
      (pss_cons (ps_set (i := 9) sc_law.nd rfl (Or.inl rfl) (pe_meth0 (pv 4) T.K_Runs T.m_Runs_slots (ok_Runs_slots T) (hr.mono (by decide)) T.b_Runs_slots .nil pass0))
      (pss_cons (ps_for PassesOwn.never rfl (pi_list (pe_lst (pa_cons pe_str (pa_cons pe_str (pa_cons pe_str (pa_cons pe_str pa_nil)))))) (pg_name (i := 10) sc_law.nd rfl (Or.inl rfl))
        (pss_one (ps_for PassesOwn.never rfl (pi_list (pe_lst (pa_cons pe_int (pa_cons pe_int (pa_cons pe_int pa_nil))))) (pg_name (i := 11) sc_law.nd rfl (Or.inl rfl))
          (pss_one (ps_if (pt_not (pt_val (pe_call (ok__law_one T) (hr.mono (by decide)) (by rfl) T.g__law_one T.F__law_one.kp T.b__law_one .nil pass0 (pa_cons (pv 2) (pa_cons (pv 10) (pa_cons (pv 11) (pa_cons (pv 4) (pa_cons (pv 5) (pa_cons (pv 6) pa_nil))))))))) (pss_one (ps_ret pe_bl)) pss_nil)))))
      (pss_one (ps_ret (pe_and (pe_cmpR (op_eqD hr.units) (pv 2) (pv 3) (nomark _)) (pe_one (pe_cmpR (op_eqD hr.units) (pe_meth0 (pv 4) T.K_Runs T.m_Runs_slots (ok_Runs_slots T) (hr.mono (by decide)) T.b_Runs_slots .nil pass0) (pv 9) (nomark _))))))))))))))), ?_⟩
    refine nrm13 rfl ?_
    refine ⟨_, rfl, (by show 1 ≤ sizeLine; decide), fun z hz => ?_⟩
    have s1 := same_upd (o := .lst [.int 31]) hz
    refine ⟨A0, z, ns, [31], 0, rfl, s1.seq hS, ⟨by omega, by omega⟩, sql upd_same, by decide, (by simp), fun p H1 ds hp s2 e2 hd => ?_⟩
    obtain ⟨size, rfl, z0, z1⟩ := digs1 hd
    have s3 := s1.trans s2
    refine ⟨p, _, 0, _, rfl, rfl, sql e2, atI_nat (j := 0) rfl, ?_⟩
    have hS1 := s3.seq hS
    clear s1 s2 e2 hd hp hz
    refine gnm13 rfl ?_
    -- the entries
    refine ⟨_, rfl, size, rfl, by omega, by omega, fun D hD => ?_⟩
    refine lcg (K := K) (walk_range (lo := 0) (n := size.toNat)) (fun i ds => ∃ es : List E7, ds = es.map E7.d ∧ es.length = i ∧ ∀ e ∈ es, ok7 e) ⟨[], rfl, rfl, fun e h => by cases h⟩ hD (fun _ _ => trivial) (by omega) ?_ ?_
    · rintro i x G G1 ds hi s4 ⟨l, hl⟩ ⟨es, rfl, he, hok⟩ ⟨rfl, rfl⟩ J j1 j2
      refine ⟨rfl, ?_⟩
      dsimp only [tYes]
      refine (if_pos rfl).mpr ?_
      refine ⟨_, rfl, _, rfl, _, _, rfl, rfl, A0, ns, 1 + i, congrArg (fun z => [V.ref A0, V.int z]) (by omega : (1 : Int) + (0 + (i : Int)) = ((1 + i : Nat) : Int)), s4.seq hS1, by omega, fun p e H' hp s5 hke hdp => ?_⟩
      refine j2 _ e.d H' s5 (fun G'' s6 o => hdp G'' fun b u hb hb' => o b u (fun z => by rw [z, hl] at hb; cases hb) hb') ⟨es ++ [e], by simp, by simp [he], fun e' hm => ?_⟩
      rcases List.mem_append.mp hm with hm | hm
      · exact hok e' hm
      · rw [List.mem_singleton] at hm
        rw [hm]
        exact hke
    rintro H2 ys _ s4 e4 h4 ⟨es, rfl, hes, hok⟩
    have hel : es.length ≤ 30 := by omega
    have hfl : Flat 3 (.list (es.map E7.d)) := flat_list (n := 2) fun d hd => by
      obtain ⟨e, he, rfl⟩ := List.mem_map.mp hd
      exact flatE7 (hok e he)
    have hyl : ys.length = es.length := by have := dpa_len h4; rwa [List.length_map] at this
    refine gnm13 rfl ?_
    -- kept
    refine ⟨_, rfl, D, rfl, ⟨_, sql e4⟩, fun D2 hD2 => ?_⟩
    refine lcd (K := K) es E7.d (fun e => some e.d) hD2 (sql e4) h4 (by omega) ?_ ?_
    · intro x e G he s5 _ hdp J j1 j2
      refine ⟨rfl, ?_⟩
      dsimp only [tYes]
      refine (if_pos rfl).mpr ?_
      exact ⟨_, rfl, j2 _ _ G (Same.refl _) (fun G'' s6 _ => dp_same s6 _ hdp) rfl⟩
    intro H3 zs s5 e5 h5
    rw [fm_some] at h5
    have e4 := s5 _ _ e4
    have h4 := dpa_same s5 _ h4
    have hS3 := (s4.trans s5).seq hS1
    clear s4 s5 hD hD2 hS1 s3
    refine gnm13 rfl ?_
    -- runs
    refine fun p dx hp hdx npdx => ⟨p, dx, rfl, upd_same, fun ab H4 n1 hA f1 => ⟨rfl, ?_⟩⟩
    have s6 := same_new hp hdx f1
    have e4 := s6 _ _ e4
    have h4 := dpa_same s6 _ h4
    have e5 := s6 _ _ e5
    have h5 := dpa_same s6 _ h5
    have hS4 := s6.seq hS3
    clear f1 n1 hp hdx npdx s6 hS3
    refine gnm13 rfl ?_
    have nq := hA.noseq
    have hp4 : ∃ o, H4 p = some o := ⟨_, hA.ob.choose_spec⟩
    have hb4 : ∃ o, H4 ab = some o := ⟨_, hA.hb.choose_spec.1⟩
    refine ⟨Nat.zero_le _, fun c5 h5n => ?_⟩
    refine gnm13 rfl ?_
    refine ⟨Nat.zero_le _, fun c6 h6n => ?_⟩
    have n56 : c5 ≠ c6 := fun z => by rw [← z, upd_same] at h6n; cases h6n
    have h6 : H4 c6 = none := by rw [upd_ne n56.symm] at h6n; exact h6n
    obtain ⟨po, hpo⟩ := hp4
    obtain ⟨bo, hbo⟩ := hb4
    have np5 : p ≠ c5 := ne_of_none hpo h5n
    have np6 : p ≠ c6 := ne_of_none hpo h6
    have nb5 : ab ≠ c5 := ne_of_none hbo h5n
    have nb6 : ab ≠ c6 := ne_of_none hbo h6
    have st0 : S7 T.a_Runs H4 (upd (upd H4 c5 (.lst [])) c6 (.lst [])) p ab c5 c6 (fun _ => none) [] [] 0 :=
      ⟨((Fr.refl _ _).put h5n).put h6, (hA.put np5 nb5).put np6 nb6, by rw [upd_ne n56, upd_same]; rfl, upd_same, Nat.le_refl _, Nat.le_refl _⟩
    generalize upd (upd H4 c5 (.lst [])) c6 (.lst []) = H6 at st0
    refine gnm13 rfl ?_
    clear h6n
    refine ⟨_, rfl, size, rfl, by omega, by omega, for_range (lo := 0) (n := size.toNat) (fun i σ G => ∃ f cf hd x7 x8, σ = [some (.ref A0), some (.int size), some (.ref D), some (.ref D2), some (.ref p), some (.ref c5), some (.ref c6), x7, x8, none, none, none, none] ∧ S7 T.a_Runs H4 G p ab c5 c6 f cf hd i)
      ⟨_, [], [], _, _, rfl, st0⟩ ?_ ?_⟩
    · rintro i σ G hi ⟨f, cf, hd, x7, x8, rfl, st⟩
      have hdl := st.l6
      refine gnm13 rfl ?_
      refine ⟨_, rfl, _, rfl, _, _, rfl, rfl, (by show 3 ≤ sizeLine; decide), fun z hz => ?_⟩
      have s1 := same_upd (o := .lst [.int 4, .int 4, .int 4]) hz
      have hSG : SqL K G A0 (ns.map V.int) := sql_fr nq st.fr hS4
      refine ⟨A0, z, ns, [4, 4, 4], _, rfl, s1.seq hSG, ⟨by omega, by omega⟩, sql upd_same, by decide, (by simp), fun U G1 ds hU s2 e2 hdg => ?_⟩
      obtain ⟨d0, d1, d2, rfl, b0, b1, b2⟩ := digs3 hdg
      have nU5 : U ≠ c5 := fun e => by rw [e, s1 _ _ st.e5] at hU; cases hU
      have nU6 : U ≠ c6 := fun e => by rw [e, s1 _ _ st.e6] at hU; cases hU
      have nUL : U ∉ [p, ab] := fun e => by
        obtain ⟨⟨dx, ob⟩, ⟨k, e1, d⟩⟩ := st.hA
        simp only [List.mem_cons, List.not_mem_nil, or_false] at e
        rcases e with rfl | rfl
        · rw [s1 _ _ ob] at hU; cases hU
        · rw [s1 _ _ e1] at hU; cases hU
      have st := st.same (s1.trans s2)
      clear s1 s2 hz hSG hdg hU
      refine gnm13 rfl ?_
      have n5L : c5 ∉ [p, ab] := by simp [np5.symm, nb5.symm]
      have n6L : c6 ∉ [p, ab] := by simp [np6.symm, nb6.symm]
      have hie : i < es.length := by omega
      have hee : es[i]? = some es[i] := List.getElem?_eq_getElem hie
      have hem : es[i] ∈ es := List.getElem_mem hie
      have hyy : ys[i]? = some ys[i] := List.getElem?_eq_getElem (by omega)
      have hdp4 : Dp K H4 ys[i] es[i].d := by
        obtain ⟨d, hd1, hdp⟩ := dpa_at h4 hyy
        rw [List.getElem?_map, hee] at hd1
        cases hd1
        exact hdp
      generalize es[i] = e at hee hem hdp4
      generalize ys[i] = x at hyy hdp4
      obtain ⟨pe, v3, v4, rfl, hpe⟩ := e7_parts hdp4
      have hat : atI ys (0 + (i : Int)) = some (.ref pe) := by rw [Int.zero_add]; exact atI_nat hyy
      have oke := hok e hem
      -- runs
      refine ⟨fun σ' G' => ∃ f', σ' = [some (.ref A0), some (.int size), some (.ref D), some (.ref D2), some (.ref p), some (.ref c5), some (.ref c6), some (.int (0 + (i : Int))), some (.ref U), none, none, none, none] ∧ S7 T.a_Runs H4 G' p ab c5 c6 f' cf hd i ∧ G' U = some (.lst ([d0, d1, d2].map V.int)), ?_, ?_⟩
      · refine ⟨_, rfl, U, _, 0, _, rfl, rfl, sql e2, atI_nat (j := 0) rfl, rfl, _, rfl, ifd (fun h1 => ?_) (fun h1 => ifbf rfl ⟨f, rfl, st, e2⟩)⟩
        refine ⟨_, rfl, _, rfl, D, ys, _, _, rfl, rfl, sql_fr nq st.fr (sql e4), hat, pe, _, 0, _, rfl, rfl, sqt_fr nq st.fr hpe, atI_nat (j := 0) rfl, rfl, _, rfl, ifd (fun h2 => ?_) (fun h2 => ⟨f, rfl, st, e2⟩)⟩
        cases e with
        | node n a b lf => exact absurd (show Str.ofString "node" = Str.ofString "task" from V.str.inj h2) (by decide +kernel)
        | task t =>
          have okt : okT t := oke
          obtain ⟨dx, ob⟩ := st.hA.ob
          refine ⟨_, rfl, p, dx, _, rfl, ob, fl_Runs_no_begin, _, rfl, _, rfl, D, ys, _, _, rfl, rfl, sql_fr nq st.fr (sql e4), hat, pe, _, 1, _, rfl, rfl, sqt_fr nq st.fr hpe, atI_nat (j := 1) rfl, p, ab, f, t.nm, 5, rfl, st.hA, okt.1, fun G2 hA2 fr2 => ?_⟩
          exact ⟨_, rfl, ⟨st.fr.trans fr2, hA2, fr2 _ _ st.e5 n5L, fr2 _ _ st.e6 n6L, st.l5, st.l6⟩, fr2 _ _ e2 nUL⟩
      rintro σ' G2 ⟨f2, rfl, st, e2⟩
      -- confirmed
      refine ⟨fun σ' G' => ∃ cf', σ' = [some (.ref A0), some (.int size), some (.ref D), some (.ref D2), some (.ref p), some (.ref c5), some (.ref c6), some (.int (0 + (i : Int))), some (.ref U), none, none, none, none] ∧ S7 T.a_Runs H4 G' p ab c5 c6 f2 cf' hd (i + 1) ∧ G' U = some (.lst ([d0, d1, d2].map V.int)), ?_, ?_⟩
      · refine ⟨_, rfl, U, _, 1, _, rfl, rfl, sql e2, atI_nat (j := 1) rfl, rfl, _, rfl, ifd (fun h1 => ?_) (fun h1 => ?_)⟩
        · refine ⟨_, rfl, .inl ⟨rfl, _, sql st.e5⟩, _, rfl, _, rfl, D, ys, _, _, rfl, rfl, sql_fr nq st.fr (sql e4), hat, pe, _, 2, _, rfl, rfl, sqt_fr nq st.fr hpe, atI_nat (j := 2) rfl, c5, _, _, rfl, rfl, st.e5, szl (by rw [List.length_map]; have := st.l5; omega), ?_⟩
          refine ⟨cf ++ [e.bn], rfl, ⟨st.fr.put h5n, st.hA.put np5 nb5, by rw [upd_same, List.map_append]; rfl, by rw [upd_ne n56.symm]; exact st.e6, by rw [List.length_append]; have := st.l5; simp only [List.length_cons, List.length_nil]; omega, by have := st.l6; omega⟩, by rw [upd_ne nU5]; exact e2⟩
        · exact ⟨cf, rfl, ⟨st.fr, st.hA, st.e5, st.e6, by have := st.l5; omega, by have := st.l6; omega⟩, e2⟩
      rintro σ' G3 ⟨cf2, rfl, st, e2⟩
      refine ⟨_, rfl, U, _, 2, _, rfl, rfl, sql e2, atI_nat (j := 2) rfl, rfl, _, rfl, ifd (fun h1 => ?_) (fun h1 => ⟨f2, cf2, hd, _, _, rfl, st⟩)⟩
      refine ⟨_, rfl, .inl ⟨rfl, _, sql st.e6⟩, _, rfl, _, rfl, D, ys, _, _, rfl, rfl, sql_fr nq st.fr (sql e4), hat, pe, _, 1, _, rfl, rfl, sqt_fr nq st.fr hpe, atI_nat (j := 1) rfl, c6, _, _, rfl, rfl, st.e6, szl (by rw [List.length_map]; have := st.l6; omega), ?_⟩
      have hd6 : hd.length ≤ i := hdl
      exact ⟨f2, cf2, hd ++ [e.nm], _, _, rfl, ⟨st.fr.put h6, st.hA.put np6 nb6, by rw [upd_ne n56]; exact st.e5, by rw [upd_same, List.map_append]; rfl, st.l5, by rw [List.length_append]; simp only [List.length_cons, List.length_nil]; have := hd6; omega⟩⟩
    · rintro σ G ⟨f, cf, hd, x7, x8, rfl, st⟩
      obtain ⟨dx, ob⟩ := st.hA.ob
      have eD := sql_fr nq st.fr (sql (K := K) e4)
      have hDl : G D = some (.lst ys) := st.fr _ _ e4 fun z => (nq D z _ (.inl e4)).1 _ rfl
      have hDl2 : G D2 = some (.lst zs) := st.fr _ _ e5 fun z => (nq D2 z _ (.inl e5)).1 _ rfl
      have dD := dpa_fr nq st.fr _ h4
      have dD2 := dpa_fr nq st.fr _ h5
      have hA := st.hA
      have e5' := st.e5
      have e6' := st.e6
      clear st eD e4 e5 h4 h5 hS4 nq
      refine nrm13 rfl ?_
      refine ⟨_, rfl, p, dx, _, rfl, ob, fl_Runs_no_slots, p, ab, f, rfl, hA, fun sl L G1 hO hL s1 eL => ?_⟩
      refine gnm13 rfl ?_
      -- each node
      refine ⟨(by show 4 ≤ sizeLine; decide), fun l1 hl1 => ⟨l1, rfl, ⟨_, sql upd_same⟩, ?_⟩⟩
      refine for_list (K := K) (a := l1) (xs := ([Str.ofString "w1", Str.ofString "w2", Str.ofString "w10", Str.ofString "w"] : List Str).map V.str) (fun j σ G' => ∃ x10 x11, σ = [some (.ref A0), some (.int size), some (.ref D), some (.ref D2), some (.ref p), some (.ref c5), some (.ref c6), x7, x8, some (.ref L), x10, x11, none] ∧ Same G G' ∧ G' L = some (.lst (sl.map V.str)) ∧ G' l1 = some (.lst (([Str.ofString "w1", Str.ofString "w2", Str.ofString "w10", Str.ofString "w"] : List Str).map V.str)))
        ⟨none, none, rfl, s1.trans (same_upd hl1), same_upd hl1 _ _ eL, upd_same⟩ (fun _ _ _ _ ⟨_, _, _, _, _, h⟩ => sql h) ?_ ?_
      · rintro j x σ G2 hxj ⟨x10, x11, rfl, g1, g2, g3⟩
        obtain ⟨nd, _, rfl⟩ := map_at hxj
        refine gnm13 rfl ?_
        refine ⟨(by show 3 ≤ sizeLine; decide), fun l2 hl2 => ⟨l2, rfl, ⟨_, sql upd_same⟩, ?_⟩⟩
        refine for_list (K := K) (a := l2) (xs := ([1, 2, 3] : List Int).map V.int) (fun j σ G' => ∃ x11, σ = [some (.ref A0), some (.int size), some (.ref D), some (.ref D2), some (.ref p), some (.ref c5), some (.ref c6), x7, x8, some (.ref L), some (.str nd), x11, none] ∧ Same G G' ∧ G' L = some (.lst (sl.map V.str)) ∧ G' l1 = some (.lst (([Str.ofString "w1", Str.ofString "w2", Str.ofString "w10", Str.ofString "w"] : List Str).map V.str)) ∧ G' l2 = some (.lst (([1, 2, 3] : List Int).map V.int)))
          ⟨_, rfl, g1.trans (same_upd hl2), same_upd hl2 _ _ g2, same_upd hl2 _ _ g3, upd_same⟩ (fun _ _ _ _ ⟨_, _, _, _, _, h⟩ => sql h) ?_ ?_
        · rintro j x σ G3 hxj ⟨x11, rfl, k1, k2, k3, k4⟩
          obtain ⟨lf, _, rfl⟩ := map_at hxj
          refine gnm13 rfl ?_
          refine ⟨_, rfl, _, rfl, _, rfl, _, rfl, _, rfl, _, rfl, D, p, ab, c5, c6, nd, lf, ys, es, f, cf, hd, rfl, k1 _ _ hDl, dpa_same k1 _ dD, by omega, hok, hA.same k1, k1 _ _ e5', k1 _ _ e6', fun G4 s5 => ⟨_, rfl, ifbf rfl ?_⟩⟩
          exact ⟨_, rfl, k1.trans s5, s5 _ _ k2, s5 _ _ k3, s5 _ _ k4⟩
        · rintro σ G3 ⟨x11, rfl, k1, k2, k3, k4⟩
          exact ⟨_, _, rfl, k1, k2, k3⟩
      · rintro σ G2 ⟨x10, x11, rfl, g1, g2, g3⟩
        refine nrm13 rfl ?_
        refine ⟨_, rfl, _, rfl, _, _, .lst (sql (g1 _ _ hDl)) (dpa_same g1 _ dD), .lst (sql (g1 _ _ hDl2)) (dpa_same g1 _ dD2), hfl.sh (by decide), hfl.sh (by decide), true, by rw [eqv_self (hfl.sh (by decide))], ifbt rfl ?_⟩
        refine ⟨_, rfl, p, dx, _, rfl, g1 _ _ ob, fl_Runs_no_slots, p, ab, f, rfl, hA.same g1, fun sl2 L2_ G3 hO2 hL2 s5 eL2 => ?_⟩
        have hsl : sl2 = sl := ord_uniq hO2 hO
        subst hsl
        have fS : Flat 1 (.list (sl2.map PyData.str)) := flat_list (n := 0) fun d hd => by
          obtain ⟨y, hy, rfl⟩ := List.mem_map.mp hd
          refine flat_str _ _ (u31_ok y ?_)
          have hs := (hO.2.2 y).mp hy
          obtain ⟨k, e1, d1⟩ := hA.hb
          exact keys_in d1 y ((key_iff d1 y).mpr hs)
        refine ⟨_, rfl, .list (sl2.map .str), .list (sl2.map .str), .lst (sql eL2) (dps_make _), .lst (sql (s5 _ _ g2)) (dps_make _), fS.sh (by decide), fS.sh (by decide), ?_⟩
        rw [eqv_self (fS.sh (by decide))]
        exact q _
end
theorem all_mk {l : PySem.W.OpenLaw} {w : World} {K : PySem.W.Frag} {h : Heap} {mg : Str → Option Value} {fa : Addr} (X : K.In h) (G : h.Ns mainGlobals mg) (hfa : mg "law" = some (.ref fa))
    {C_Runs : Addr} {f__wall : Addr} {od__wall an__wall : Option Addr} {sl__wall : Array (Option Value)} {oc__wall kV__wall dc__wall pm__wall cd__wall ct__wall : Value} {f_is_placed : Addr} {od_is_placed an_is_placed : Option Addr} {sl_is_placed : Array (Option Value)} {oc_is_placed kV_is_placed dc_is_placed pm_is_placed cd_is_placed ct_is_placed : Value} {f_Runs___init__ : Addr} {od_Runs___init__ an_Runs___init__ : Option Addr} {sl_Runs___init__ : Array (Option Value)} {oc_Runs___init__ kV_Runs___init__ dc_Runs___init__ pm_Runs___init__ cd_Runs___init__ ct_Runs___init__ : Value} {f_Runs_begin : Addr} {od_Runs_begin an_Runs_begin : Option Addr} {sl_Runs_begin : Array (Option Value)} {oc_Runs_begin kV_Runs_begin dc_Runs_begin pm_Runs_begin cd_Runs_begin ct_Runs_begin : Value} {f_Runs_end : Addr} {od_Runs_end an_Runs_end : Option Addr} {sl_Runs_end : Array (Option Value)} {oc_Runs_end kV_Runs_end dc_Runs_end pm_Runs_end cd_Runs_end ct_Runs_end : Value} {f_Runs_end_all : Addr} {od_Runs_end_all an_Runs_end_all : Option Addr} {sl_Runs_end_all : Array (Option Value)} {oc_Runs_end_all kV_Runs_end_all dc_Runs_end_all pm_Runs_end_all cd_Runs_end_all ct_Runs_end_all : Value} {f_Runs_born_of : Addr} {od_Runs_born_of an_Runs_born_of : Option Addr} {sl_Runs_born_of : Array (Option Value)} {oc_Runs_born_of kV_Runs_born_of dc_Runs_born_of pm_Runs_born_of cd_Runs_born_of ct_Runs_born_of : Value} {f_Runs_slots : Addr} {od_Runs_slots an_Runs_slots : Option Addr} {sl_Runs_slots : Array (Option Value)} {oc_Runs_slots kV_Runs_slots dc_Runs_slots pm_Runs_slots cd_Runs_slots ct_Runs_slots : Value} {f_tasks_of : Addr} {od_tasks_of an_tasks_of : Option Addr} {sl_tasks_of : Array (Option Value)} {oc_tasks_of kV_tasks_of dc_tasks_of pm_tasks_of cd_tasks_of ct_tasks_of : Value} {f_to_run : Addr} {od_to_run an_to_run : Option Addr} {sl_to_run : Array (Option Value)} {oc_to_run kV_to_run dc_to_run pm_to_run cd_to_run ct_to_run : Value} {f_next_start : Addr} {od_next_start an_next_start : Option Addr} {sl_next_start : Array (Option Value)} {oc_next_start kV_next_start dc_next_start pm_next_start cd_next_start ct_next_start : Value} {f_next_end : Addr} {od_next_end an_next_end : Option Addr} {sl_next_end : Array (Option Value)} {oc_next_end kV_next_end dc_next_end pm_next_end cd_next_end ct_next_end : Value} {f__law_number : Addr} {od__law_number an__law_number : Option Addr} {sl__law_number : Array (Option Value)} {oc__law_number kV__law_number dc__law_number pm__law_number cd__law_number ct__law_number : Value} {f__law_digits : Addr} {od__law_digits an__law_digits : Option Addr} {sl__law_digits : Array (Option Value)} {oc__law_digits kV__law_digits dc__law_digits pm__law_digits cd__law_digits ct__law_digits : Value} {f__law_entry : Addr} {od__law_entry an__law_entry : Option Addr} {sl__law_entry : Array (Option Value)} {oc__law_entry kV__law_entry dc__law_entry pm__law_entry cd__law_entry ct__law_entry : Value} {f__law_first : Addr} {od__law_first an__law_first : Option Addr} {sl__law_first : Array (Option Value)} {oc__law_first kV__law_first dc__law_first pm__law_first cd__law_first ct__law_first : Value} {f__law_one : Addr} {od__law_one an__law_one : Option Addr} {sl__law_one : Array (Option Value)} {oc__law_one kV__law_one dc__law_one pm__law_one cd__law_one ct__law_one : Value} {f_law : Addr} {od_law an_law : Option Addr} {sl_law : Array (Option Value)} {oc_law kV_law dc_law pm_law cd_law ct_law : Value} {t_TEXT : Tok} {t_SIZE : Tok} {t_STATE : Tok} {t_STOP : Tok} {t_NODE : Tok} {t_LIFE : Tok}
    (g__wall : PySem.W.nsIn K mainGlobals "_wall" = some (some (.ref f__wall)))
    (l__wall : K.lookup f__wall = some ⟨oc__wall, od__wall, .func (PySem.W.fnOf "_wall" "_wall" (defArgs s__wall) (defBody s__wall) (defScope s__wall) .none kV__wall dc__wall pm__wall an__wall cd__wall ct__wall), sl__wall⟩)
    (c__wall : PySem.W.codeIn K cd__wall "_wall" = true)
    (k__wall : PySem.W.keepIn K (.ref f__wall) = true)
    (g_is_placed : PySem.W.nsIn K mainGlobals "is_placed" = some (some (.ref f_is_placed)))
    (l_is_placed : K.lookup f_is_placed = some ⟨oc_is_placed, od_is_placed, .func (PySem.W.fnOf "is_placed" "is_placed" (defArgs s_is_placed) (defBody s_is_placed) (defScope s_is_placed) .none kV_is_placed dc_is_placed pm_is_placed an_is_placed cd_is_placed ct_is_placed), sl_is_placed⟩)
    (c_is_placed : PySem.W.codeIn K cd_is_placed "is_placed" = true)
    (k_is_placed : PySem.W.keepIn K (.ref f_is_placed) = true)
    (gc_Runs : PySem.W.nsIn K mainGlobals "Runs" = some (some (.ref C_Runs)))
    (m_Runs___init__ : PySem.W.findIn K (.ref C_Runs) "__init__" = some (some (.ref f_Runs___init__)))
    (i_Runs___init__ : PySem.W.isFn K (.ref f_Runs___init__) = true)
    (l_Runs___init__ : K.lookup f_Runs___init__ = some ⟨oc_Runs___init__, od_Runs___init__, .func (PySem.W.fnOf "__init__" "Runs.__init__" (defArgs s_Runs___init__) (defBody s_Runs___init__) (defScope s_Runs___init__) .none kV_Runs___init__ dc_Runs___init__ pm_Runs___init__ an_Runs___init__ cd_Runs___init__ ct_Runs___init__), sl_Runs___init__⟩)
    (c_Runs___init__ : PySem.W.codeIn K cd_Runs___init__ "Runs.__init__" = true)
    (k_Runs___init__ : PySem.W.keepIn K (.ref f_Runs___init__) = true)
    (m_Runs_begin : PySem.W.findIn K (.ref C_Runs) "begin" = some (some (.ref f_Runs_begin)))
    (i_Runs_begin : PySem.W.isFn K (.ref f_Runs_begin) = true)
    (l_Runs_begin : K.lookup f_Runs_begin = some ⟨oc_Runs_begin, od_Runs_begin, .func (PySem.W.fnOf "begin" "Runs.begin" (defArgs s_Runs_begin) (defBody s_Runs_begin) (defScope s_Runs_begin) .none kV_Runs_begin dc_Runs_begin pm_Runs_begin an_Runs_begin cd_Runs_begin ct_Runs_begin), sl_Runs_begin⟩)
    (c_Runs_begin : PySem.W.codeIn K cd_Runs_begin "Runs.begin" = true)
    (k_Runs_begin : PySem.W.keepIn K (.ref f_Runs_begin) = true)
    (m_Runs_end : PySem.W.findIn K (.ref C_Runs) "end" = some (some (.ref f_Runs_end)))
    (i_Runs_end : PySem.W.isFn K (.ref f_Runs_end) = true)
    (l_Runs_end : K.lookup f_Runs_end = some ⟨oc_Runs_end, od_Runs_end, .func (PySem.W.fnOf "end" "Runs.end" (defArgs s_Runs_end) (defBody s_Runs_end) (defScope s_Runs_end) .none kV_Runs_end dc_Runs_end pm_Runs_end an_Runs_end cd_Runs_end ct_Runs_end), sl_Runs_end⟩)
    (c_Runs_end : PySem.W.codeIn K cd_Runs_end "Runs.end" = true)
    (k_Runs_end : PySem.W.keepIn K (.ref f_Runs_end) = true)
    (m_Runs_end_all : PySem.W.findIn K (.ref C_Runs) "end_all" = some (some (.ref f_Runs_end_all)))
    (i_Runs_end_all : PySem.W.isFn K (.ref f_Runs_end_all) = true)
    (l_Runs_end_all : K.lookup f_Runs_end_all = some ⟨oc_Runs_end_all, od_Runs_end_all, .func (PySem.W.fnOf "end_all" "Runs.end_all" (defArgs s_Runs_end_all) (defBody s_Runs_end_all) (defScope s_Runs_end_all) .none kV_Runs_end_all dc_Runs_end_all pm_Runs_end_all an_Runs_end_all cd_Runs_end_all ct_Runs_end_all), sl_Runs_end_all⟩)
    (c_Runs_end_all : PySem.W.codeIn K cd_Runs_end_all "Runs.end_all" = true)
    (k_Runs_end_all : PySem.W.keepIn K (.ref f_Runs_end_all) = true)
    (m_Runs_born_of : PySem.W.findIn K (.ref C_Runs) "born_of" = some (some (.ref f_Runs_born_of)))
    (i_Runs_born_of : PySem.W.isFn K (.ref f_Runs_born_of) = true)
    (l_Runs_born_of : K.lookup f_Runs_born_of = some ⟨oc_Runs_born_of, od_Runs_born_of, .func (PySem.W.fnOf "born_of" "Runs.born_of" (defArgs s_Runs_born_of) (defBody s_Runs_born_of) (defScope s_Runs_born_of) .none kV_Runs_born_of dc_Runs_born_of pm_Runs_born_of an_Runs_born_of cd_Runs_born_of ct_Runs_born_of), sl_Runs_born_of⟩)
    (c_Runs_born_of : PySem.W.codeIn K cd_Runs_born_of "Runs.born_of" = true)
    (k_Runs_born_of : PySem.W.keepIn K (.ref f_Runs_born_of) = true)
    (m_Runs_slots : PySem.W.findIn K (.ref C_Runs) "slots" = some (some (.ref f_Runs_slots)))
    (i_Runs_slots : PySem.W.isFn K (.ref f_Runs_slots) = true)
    (l_Runs_slots : K.lookup f_Runs_slots = some ⟨oc_Runs_slots, od_Runs_slots, .func (PySem.W.fnOf "slots" "Runs.slots" (defArgs s_Runs_slots) (defBody s_Runs_slots) (defScope s_Runs_slots) .none kV_Runs_slots dc_Runs_slots pm_Runs_slots an_Runs_slots cd_Runs_slots ct_Runs_slots), sl_Runs_slots⟩)
    (c_Runs_slots : PySem.W.codeIn K cd_Runs_slots "Runs.slots" = true)
    (k_Runs_slots : PySem.W.keepIn K (.ref f_Runs_slots) = true)
    (g_tasks_of : PySem.W.nsIn K mainGlobals "tasks_of" = some (some (.ref f_tasks_of)))
    (l_tasks_of : K.lookup f_tasks_of = some ⟨oc_tasks_of, od_tasks_of, .func (PySem.W.fnOf "tasks_of" "tasks_of" (defArgs s_tasks_of) (defBody s_tasks_of) (defScope s_tasks_of) .none kV_tasks_of dc_tasks_of pm_tasks_of an_tasks_of cd_tasks_of ct_tasks_of), sl_tasks_of⟩)
    (c_tasks_of : PySem.W.codeIn K cd_tasks_of "tasks_of" = true)
    (k_tasks_of : PySem.W.keepIn K (.ref f_tasks_of) = true)
    (g_to_run : PySem.W.nsIn K mainGlobals "to_run" = some (some (.ref f_to_run)))
    (l_to_run : K.lookup f_to_run = some ⟨oc_to_run, od_to_run, .func (PySem.W.fnOf "to_run" "to_run" (defArgs s_to_run) (defBody s_to_run) (defScope s_to_run) .none kV_to_run dc_to_run pm_to_run an_to_run cd_to_run ct_to_run), sl_to_run⟩)
    (c_to_run : PySem.W.codeIn K cd_to_run "to_run" = true)
    (k_to_run : PySem.W.keepIn K (.ref f_to_run) = true)
    (g_next_start : PySem.W.nsIn K mainGlobals "next_start" = some (some (.ref f_next_start)))
    (l_next_start : K.lookup f_next_start = some ⟨oc_next_start, od_next_start, .func (PySem.W.fnOf "next_start" "next_start" (defArgs s_next_start) (defBody s_next_start) (defScope s_next_start) .none kV_next_start dc_next_start pm_next_start an_next_start cd_next_start ct_next_start), sl_next_start⟩)
    (c_next_start : PySem.W.codeIn K cd_next_start "next_start" = true)
    (k_next_start : PySem.W.keepIn K (.ref f_next_start) = true)
    (g_next_end : PySem.W.nsIn K mainGlobals "next_end" = some (some (.ref f_next_end)))
    (l_next_end : K.lookup f_next_end = some ⟨oc_next_end, od_next_end, .func (PySem.W.fnOf "next_end" "next_end" (defArgs s_next_end) (defBody s_next_end) (defScope s_next_end) .none kV_next_end dc_next_end pm_next_end an_next_end cd_next_end ct_next_end), sl_next_end⟩)
    (c_next_end : PySem.W.codeIn K cd_next_end "next_end" = true)
    (k_next_end : PySem.W.keepIn K (.ref f_next_end) = true)
    (g__law_number : PySem.W.nsIn K mainGlobals "_law_number" = some (some (.ref f__law_number)))
    (l__law_number : K.lookup f__law_number = some ⟨oc__law_number, od__law_number, .func (PySem.W.fnOf "_law_number" "_law_number" (defArgs s__law_number) (defBody s__law_number) (defScope s__law_number) .none kV__law_number dc__law_number pm__law_number an__law_number cd__law_number ct__law_number), sl__law_number⟩)
    (c__law_number : PySem.W.codeIn K cd__law_number "_law_number" = true)
    (k__law_number : PySem.W.keepIn K (.ref f__law_number) = true)
    (g__law_digits : PySem.W.nsIn K mainGlobals "_law_digits" = some (some (.ref f__law_digits)))
    (l__law_digits : K.lookup f__law_digits = some ⟨oc__law_digits, od__law_digits, .func (PySem.W.fnOf "_law_digits" "_law_digits" (defArgs s__law_digits) (defBody s__law_digits) (defScope s__law_digits) .none kV__law_digits dc__law_digits pm__law_digits an__law_digits cd__law_digits ct__law_digits), sl__law_digits⟩)
    (c__law_digits : PySem.W.codeIn K cd__law_digits "_law_digits" = true)
    (k__law_digits : PySem.W.keepIn K (.ref f__law_digits) = true)
    (g__law_entry : PySem.W.nsIn K mainGlobals "_law_entry" = some (some (.ref f__law_entry)))
    (l__law_entry : K.lookup f__law_entry = some ⟨oc__law_entry, od__law_entry, .func (PySem.W.fnOf "_law_entry" "_law_entry" (defArgs s__law_entry) (defBody s__law_entry) (defScope s__law_entry) .none kV__law_entry dc__law_entry pm__law_entry an__law_entry cd__law_entry ct__law_entry), sl__law_entry⟩)
    (c__law_entry : PySem.W.codeIn K cd__law_entry "_law_entry" = true)
    (k__law_entry : PySem.W.keepIn K (.ref f__law_entry) = true)
    (g__law_first : PySem.W.nsIn K mainGlobals "_law_first" = some (some (.ref f__law_first)))
    (l__law_first : K.lookup f__law_first = some ⟨oc__law_first, od__law_first, .func (PySem.W.fnOf "_law_first" "_law_first" (defArgs s__law_first) (defBody s__law_first) (defScope s__law_first) .none kV__law_first dc__law_first pm__law_first an__law_first cd__law_first ct__law_first), sl__law_first⟩)
    (c__law_first : PySem.W.codeIn K cd__law_first "_law_first" = true)
    (k__law_first : PySem.W.keepIn K (.ref f__law_first) = true)
    (g__law_one : PySem.W.nsIn K mainGlobals "_law_one" = some (some (.ref f__law_one)))
    (l__law_one : K.lookup f__law_one = some ⟨oc__law_one, od__law_one, .func (PySem.W.fnOf "_law_one" "_law_one" (defArgs s__law_one) (defBody s__law_one) (defScope s__law_one) .none kV__law_one dc__law_one pm__law_one an__law_one cd__law_one ct__law_one), sl__law_one⟩)
    (c__law_one : PySem.W.codeIn K cd__law_one "_law_one" = true)
    (k__law_one : PySem.W.keepIn K (.ref f__law_one) = true)
    (g_law : PySem.W.nsIn K mainGlobals "law" = some (some (.ref f_law)))
    (l_law : K.lookup f_law = some ⟨oc_law, od_law, .func (PySem.W.fnOf "law" "law" (defArgs s_law) (defBody s_law) (defScope s_law) .none kV_law dc_law pm_law an_law cd_law ct_law), sl_law⟩)
    (c_law : PySem.W.codeIn K cd_law "law" = true)
    (k_law : PySem.W.keepIn K (.ref f_law) = true)
    (pg_Runs : PySem.W.plainGet K C_Runs Str.empty = true)
    (hd_Runs : PySem.W.hasDictIn K C_Runs = true)
    (po_Runs : PySem.W.plainOver K C_Runs = true)
    (sa_Runs : PySem.W.findIn K (.ref C_Runs) "__setattr__" = some (some (.builtin "object.__setattr__")))
    (mk_Runs : PySem.W.makesIn K C_Runs = true)
    (kc_Runs : PySem.W.keepIn K (.ref C_Runs) = true)
    (na_Runs__borns : PySem.W.findIn K (.ref C_Runs) "_borns" = some none)
    (c_TEXT : PySem.W.nsIn K mainGlobals "TEXT" = some (some (.int 1 t_TEXT)))
    (c_SIZE : PySem.W.nsIn K mainGlobals "SIZE" = some (some (.int 2 t_SIZE)))
    (c_STATE : PySem.W.nsIn K mainGlobals "STATE" = some (some (.int 3 t_STATE)))
    (c_STOP : PySem.W.nsIn K mainGlobals "STOP" = some (some (.int 4 t_STOP)))
    (c_NODE : PySem.W.nsIn K mainGlobals "NODE" = some (some (.int 5 t_NODE)))
    (c_LIFE : PySem.W.nsIn K mainGlobals "LIFE" = some (some (.int 6 t_LIFE)))
    (n_len : PySem.W.nsIn K mainGlobals "len" = some none)
    (n_abs : PySem.W.nsIn K mainGlobals "abs" = some none)
    (n_int : PySem.W.nsIn K mainGlobals "int" = some none)
    (n_sorted : PySem.W.nsIn K mainGlobals "sorted" = some none)
    (n_str : PySem.W.nsIn K mainGlobals "str" = some none)
    (n_range : PySem.W.nsIn K mainGlobals "range" = some none) :
    ∃ fd : FuncData, (∀ (s : Shared) (v : Value), BindsTo s fd ⟨[v], []⟩ [("script", v)]) ∧ ∀ base : Heap, K.In base → base.Ns mainGlobals mg → FnOk l.prog w K mg base CX0 4 fa fd ["script"] (sp_law K) := by
  have e : fa = f_law := by
    have z := hfa.symm.trans (PySem.W.mg_of X G g_law)
    injection z with z
    injection z
  rw [e]
  let T : TX K mg := ⟨C_Runs, f__wall, (PySem.W.fnOf "_wall" "_wall" (defArgs s__wall) (defBody s__wall) (defScope s__wall) .none kV__wall dc__wall pm__wall an__wall cd__wall ct__wall), (fun_mk (st := s__wall) l__wall c__wall k__wall), ((fun_mk (st := s__wall) l__wall c__wall k__wall).binds (ps := ["k"]) fun _ _ _ _ _ _ us hl => match us, hl with | [_], _ => rfl), (PySem.W.mg_of X G g__wall), f_is_placed, (PySem.W.fnOf "is_placed" "is_placed" (defArgs s_is_placed) (defBody s_is_placed) (defScope s_is_placed) .none kV_is_placed dc_is_placed pm_is_placed an_is_placed cd_is_placed ct_is_placed), (fun_mk (st := s_is_placed) l_is_placed c_is_placed k_is_placed), ((fun_mk (st := s_is_placed) l_is_placed c_is_placed k_is_placed).binds (ps := ["value"]) fun _ _ _ _ _ _ us hl => match us, hl with | [_], _ => rfl), (PySem.W.mg_of X G g_is_placed), f_Runs___init__, (PySem.W.fnOf "__init__" "Runs.__init__" (defArgs s_Runs___init__) (defBody s_Runs___init__) (defScope s_Runs___init__) .none kV_Runs___init__ dc_Runs___init__ pm_Runs___init__ an_Runs___init__ cd_Runs___init__ ct_Runs___init__), (fun_mk (st := s_Runs___init__) l_Runs___init__ c_Runs___init__ k_Runs___init__), ((fun_mk (st := s_Runs___init__) l_Runs___init__ c_Runs___init__ k_Runs___init__).binds (ps := ["self"]) fun _ _ _ _ _ _ us hl => match us, hl with | [_], _ => rfl), f_Runs_begin, (PySem.W.fnOf "begin" "Runs.begin" (defArgs s_Runs_begin) (defBody s_Runs_begin) (defScope s_Runs_begin) .none kV_Runs_begin dc_Runs_begin pm_Runs_begin an_Runs_begin cd_Runs_begin ct_Runs_begin), (fun_mk (st := s_Runs_begin) l_Runs_begin c_Runs_begin k_Runs_begin), ((fun_mk (st := s_Runs_begin) l_Runs_begin c_Runs_begin k_Runs_begin).binds (ps := ["self", "slot", "born"]) fun _ _ _ _ _ _ us hl => match us, hl with | [_, _, _], _ => rfl), ⟨m_Runs_begin, i_Runs_begin, k_Runs_begin⟩, f_Runs_end, (PySem.W.fnOf "end" "Runs.end" (defArgs s_Runs_end) (defBody s_Runs_end) (defScope s_Runs_end) .none kV_Runs_end dc_Runs_end pm_Runs_end an_Runs_end cd_Runs_end ct_Runs_end), (fun_mk (st := s_Runs_end) l_Runs_end c_Runs_end k_Runs_end), ((fun_mk (st := s_Runs_end) l_Runs_end c_Runs_end k_Runs_end).binds (ps := ["self", "slot"]) fun _ _ _ _ _ _ us hl => match us, hl with | [_, _], _ => rfl), ⟨m_Runs_end, i_Runs_end, k_Runs_end⟩, f_Runs_end_all, (PySem.W.fnOf "end_all" "Runs.end_all" (defArgs s_Runs_end_all) (defBody s_Runs_end_all) (defScope s_Runs_end_all) .none kV_Runs_end_all dc_Runs_end_all pm_Runs_end_all an_Runs_end_all cd_Runs_end_all ct_Runs_end_all), (fun_mk (st := s_Runs_end_all) l_Runs_end_all c_Runs_end_all k_Runs_end_all), ((fun_mk (st := s_Runs_end_all) l_Runs_end_all c_Runs_end_all k_Runs_end_all).binds (ps := ["self"]) fun _ _ _ _ _ _ us hl => match us, hl with | [_], _ => rfl), ⟨m_Runs_end_all, i_Runs_end_all, k_Runs_end_all⟩, f_Runs_born_of, (PySem.W.fnOf "born_of" "Runs.born_of" (defArgs s_Runs_born_of) (defBody s_Runs_born_of) (defScope s_Runs_born_of) .none kV_Runs_born_of dc_Runs_born_of pm_Runs_born_of an_Runs_born_of cd_Runs_born_of ct_Runs_born_of), (fun_mk (st := s_Runs_born_of) l_Runs_born_of c_Runs_born_of k_Runs_born_of), ((fun_mk (st := s_Runs_born_of) l_Runs_born_of c_Runs_born_of k_Runs_born_of).binds (ps := ["self", "slot"]) fun _ _ _ _ _ _ us hl => match us, hl with | [_, _], _ => rfl), ⟨m_Runs_born_of, i_Runs_born_of, k_Runs_born_of⟩, f_Runs_slots, (PySem.W.fnOf "slots" "Runs.slots" (defArgs s_Runs_slots) (defBody s_Runs_slots) (defScope s_Runs_slots) .none kV_Runs_slots dc_Runs_slots pm_Runs_slots an_Runs_slots cd_Runs_slots ct_Runs_slots), (fun_mk (st := s_Runs_slots) l_Runs_slots c_Runs_slots k_Runs_slots), ((fun_mk (st := s_Runs_slots) l_Runs_slots c_Runs_slots k_Runs_slots).binds (ps := ["self"]) fun _ _ _ _ _ _ us hl => match us, hl with | [_], _ => rfl), ⟨m_Runs_slots, i_Runs_slots, k_Runs_slots⟩, f_tasks_of, (PySem.W.fnOf "tasks_of" "tasks_of" (defArgs s_tasks_of) (defBody s_tasks_of) (defScope s_tasks_of) .none kV_tasks_of dc_tasks_of pm_tasks_of an_tasks_of cd_tasks_of ct_tasks_of), (fun_mk (st := s_tasks_of) l_tasks_of c_tasks_of k_tasks_of), ((fun_mk (st := s_tasks_of) l_tasks_of c_tasks_of k_tasks_of).binds (ps := ["entries", "node", "life"]) fun _ _ _ _ _ _ us hl => match us, hl with | [_, _, _], _ => rfl), (PySem.W.mg_of X G g_tasks_of), f_to_run, (PySem.W.fnOf "to_run" "to_run" (defArgs s_to_run) (defBody s_to_run) (defScope s_to_run) .none kV_to_run dc_to_run pm_to_run an_to_run cd_to_run ct_to_run), (fun_mk (st := s_to_run) l_to_run c_to_run k_to_run), ((fun_mk (st := s_to_run) l_to_run c_to_run k_to_run).binds (ps := ["tasks", "runs", "confirmed"]) fun _ _ _ _ _ _ us hl => match us, hl with | [_, _, _], _ => rfl), (PySem.W.mg_of X G g_to_run), f_next_start, (PySem.W.fnOf "next_start" "next_start" (defArgs s_next_start) (defBody s_next_start) (defScope s_next_start) .none kV_next_start dc_next_start pm_next_start an_next_start cd_next_start ct_next_start), (fun_mk (st := s_next_start) l_next_start c_next_start k_next_start), ((fun_mk (st := s_next_start) l_next_start c_next_start k_next_start).binds (ps := ["tasks", "held"]) fun _ _ _ _ _ _ us hl => match us, hl with | [_, _], _ => rfl), (PySem.W.mg_of X G g_next_start), f_next_end, (PySem.W.fnOf "next_end" "next_end" (defArgs s_next_end) (defBody s_next_end) (defScope s_next_end) .none kV_next_end dc_next_end pm_next_end an_next_end cd_next_end ct_next_end), (fun_mk (st := s_next_end) l_next_end c_next_end k_next_end), ((fun_mk (st := s_next_end) l_next_end c_next_end k_next_end).binds (ps := ["tasks", "held"]) fun _ _ _ _ _ _ us hl => match us, hl with | [_, _], _ => rfl), (PySem.W.mg_of X G g_next_end), f__law_number, (PySem.W.fnOf "_law_number" "_law_number" (defArgs s__law_number) (defBody s__law_number) (defScope s__law_number) .none kV__law_number dc__law_number pm__law_number an__law_number cd__law_number ct__law_number), (fun_mk (st := s__law_number) l__law_number c__law_number k__law_number), ((fun_mk (st := s__law_number) l__law_number c__law_number k__law_number).binds (ps := ["script", "k"]) fun _ _ _ _ _ _ us hl => match us, hl with | [_, _], _ => rfl), (PySem.W.mg_of X G g__law_number), f__law_digits, (PySem.W.fnOf "_law_digits" "_law_digits" (defArgs s__law_digits) (defBody s__law_digits) (defScope s__law_digits) .none kV__law_digits dc__law_digits pm__law_digits an__law_digits cd__law_digits ct__law_digits), (fun_mk (st := s__law_digits) l__law_digits c__law_digits k__law_digits), ((fun_mk (st := s__law_digits) l__law_digits c__law_digits k__law_digits).binds (ps := ["script", "k", "sizes"]) fun _ _ _ _ _ _ us hl => match us, hl with | [_, _, _], _ => rfl), (PySem.W.mg_of X G g__law_digits), f__law_entry, (PySem.W.fnOf "_law_entry" "_law_entry" (defArgs s__law_entry) (defBody s__law_entry) (defScope s__law_entry) .none kV__law_entry dc__law_entry pm__law_entry an__law_entry cd__law_entry ct__law_entry), (fun_mk (st := s__law_entry) l__law_entry c__law_entry k__law_entry), ((fun_mk (st := s__law_entry) l__law_entry c__law_entry k__law_entry).binds (ps := ["script", "k"]) fun _ _ _ _ _ _ us hl => match us, hl with | [_, _], _ => rfl), (PySem.W.mg_of X G g__law_entry), f__law_first, (PySem.W.fnOf "_law_first" "_law_first" (defArgs s__law_first) (defBody s__law_first) (defScope s__law_first) .none kV__law_first dc__law_first pm__law_first an__law_first cd__law_first ct__law_first), (fun_mk (st := s__law_first) l__law_first c__law_first k__law_first), ((fun_mk (st := s__law_first) l__law_first c__law_first k__law_first).binds (ps := ["tasks", "states", "stop", "held"]) fun _ _ _ _ _ _ us hl => match us, hl with | [_, _, _, _], _ => rfl), (PySem.W.mg_of X G g__law_first), f__law_one, (PySem.W.fnOf "_law_one" "_law_one" (defArgs s__law_one) (defBody s__law_one) (defScope s__law_one) .none kV__law_one dc__law_one pm__law_one an__law_one cd__law_one ct__law_one), (fun_mk (st := s__law_one) l__law_one c__law_one k__law_one), ((fun_mk (st := s__law_one) l__law_one c__law_one k__law_one).binds (ps := ["entries", "node", "life", "runs", "confirmed", "held"]) fun _ _ _ _ _ _ us hl => match us, hl with | [_, _, _, _, _, _], _ => rfl), (PySem.W.mg_of X G g__law_one), f_law, (PySem.W.fnOf "law" "law" (defArgs s_law) (defBody s_law) (defScope s_law) .none kV_law dc_law pm_law an_law cd_law ct_law), (fun_mk (st := s_law) l_law c_law k_law), ((fun_mk (st := s_law) l_law c_law k_law).binds (ps := ["script"]) fun _ _ _ _ _ _ us hl => match us, hl with | [_], _ => rfl), (PySem.W.mg_of X G g_law), ⟨pg_Runs, hd_Runs, po_Runs, sa_Runs⟩, (PySem.W.mg_of X G gc_Runs), ⟨mk_Runs, m_Runs___init__, i_Runs___init__, kc_Runs⟩, na_Runs__borns, t_TEXT, (PySem.W.mg_of X G c_TEXT), t_SIZE, (PySem.W.mg_of X G c_SIZE), t_STATE, (PySem.W.mg_of X G c_STATE), t_STOP, (PySem.W.mg_of X G c_STOP), t_NODE, (PySem.W.mg_of X G c_NODE), t_LIFE, (PySem.W.mg_of X G c_LIFE), (PySem.W.mg_none_of X G n_len), (PySem.W.mg_none_of X G n_abs), (PySem.W.mg_none_of X G n_int), (PySem.W.mg_none_of X G n_sorted), (PySem.W.mg_none_of X G n_str), (PySem.W.mg_none_of X G n_range)⟩
  exact ⟨T.d_law, fun s v => .of_eq rfl, fun base _ _ => ok_law T⟩
end My
open PySem PySem.W PyProof.Rows
set_option maxHeartbeats 0 in
theorem PySem.Challenge.cw_majordomo_k77_what_a_worker_should_do_holds : PySem.Challenge.rw_majordomo_k77_what_a_worker_should_do.Holds := by
  w_on; o_law; k_head; (case hw => w_witness2)
  k_fill
  refine L2.walk_of (l := PySem.Challenge.rw_majordomo_k77_what_a_worker_should_do) (n := 63) (k := 4) (x := "script") (CX := (fun _ => L2.CX0)) (sp := fun w => My.sp_law _) rfl (by decide) rfl ⟨rfl, by decide, by decide⟩ (fun w h Y => PySem.W.kIn_of Y) ?F (fun _ _ a ns hl _ hS => ⟨a, ns, rfl, hS, hl, fun _ => rfl⟩) (fun _ _ _ _ _ h => h)
  case F =>
    intro w mg fa h KX G hmg
    refine' My.all_mk KX G hmg ?g__wall ?l__wall ?c__wall ?k__wall ?g_is_placed ?l_is_placed ?c_is_placed ?k_is_placed ?gc_Runs ?m_Runs___init__ ?i_Runs___init__ ?l_Runs___init__ ?c_Runs___init__ ?k_Runs___init__ ?m_Runs_begin ?i_Runs_begin ?l_Runs_begin ?c_Runs_begin ?k_Runs_begin ?m_Runs_end ?i_Runs_end ?l_Runs_end ?c_Runs_end ?k_Runs_end ?m_Runs_end_all ?i_Runs_end_all ?l_Runs_end_all ?c_Runs_end_all ?k_Runs_end_all ?m_Runs_born_of ?i_Runs_born_of ?l_Runs_born_of ?c_Runs_born_of ?k_Runs_born_of ?m_Runs_slots ?i_Runs_slots ?l_Runs_slots ?c_Runs_slots ?k_Runs_slots ?g_tasks_of ?l_tasks_of ?c_tasks_of ?k_tasks_of ?g_to_run ?l_to_run ?c_to_run ?k_to_run ?g_next_start ?l_next_start ?c_next_start ?k_next_start ?g_next_end ?l_next_end ?c_next_end ?k_next_end ?g__law_number ?l__law_number ?c__law_number ?k__law_number ?g__law_digits ?l__law_digits ?c__law_digits ?k__law_digits ?g__law_entry ?l__law_entry ?c__law_entry ?k__law_entry ?g__law_first ?l__law_first ?c__law_first ?k__law_first ?g__law_one ?l__law_one ?c__law_one ?k__law_one ?g_law ?l_law ?c_law ?k_law ?pg_Runs ?hd_Runs ?po_Runs ?sa_Runs ?mk_Runs ?kc_Runs ?na_Runs__borns ?c_TEXT ?c_SIZE ?c_STATE ?c_STOP ?c_NODE ?c_LIFE ?n_len ?n_abs ?n_int ?n_sorted ?n_str ?n_range
    (case g__wall => k_is); (case l__wall => k_is); (case c__wall => k_is); (case k__wall => k_is); (case g_is_placed => k_is); (case l_is_placed => k_is); (case c_is_placed => k_is); (case k_is_placed => k_is); (case gc_Runs => k_is); (case m_Runs___init__ => k_is); (case i_Runs___init__ => k_is); (case l_Runs___init__ => k_is); (case c_Runs___init__ => k_is); (case k_Runs___init__ => k_is); (case m_Runs_begin => k_is); (case i_Runs_begin => k_is); (case l_Runs_begin => k_is); (case c_Runs_begin => k_is); (case k_Runs_begin => k_is); (case m_Runs_end => k_is); (case i_Runs_end => k_is); (case l_Runs_end => k_is); (case c_Runs_end => k_is); (case k_Runs_end => k_is); (case m_Runs_end_all => k_is); (case i_Runs_end_all => k_is); (case l_Runs_end_all => k_is); (case c_Runs_end_all => k_is); (case k_Runs_end_all => k_is); (case m_Runs_born_of => k_is); (case i_Runs_born_of => k_is); (case l_Runs_born_of => k_is); (case c_Runs_born_of => k_is); (case k_Runs_born_of => k_is); (case m_Runs_slots => k_is); (case i_Runs_slots => k_is); (case l_Runs_slots => k_is); (case c_Runs_slots => k_is); (case k_Runs_slots => k_is); (case g_tasks_of => k_is); (case l_tasks_of => k_is); (case c_tasks_of => k_is); (case k_tasks_of => k_is); (case g_to_run => k_is); (case l_to_run => k_is); (case c_to_run => k_is); (case k_to_run => k_is); (case g_next_start => k_is); (case l_next_start => k_is); (case c_next_start => k_is); (case k_next_start => k_is); (case g_next_end => k_is); (case l_next_end => k_is); (case c_next_end => k_is); (case k_next_end => k_is); (case g__law_number => k_is); (case l__law_number => k_is); (case c__law_number => k_is); (case k__law_number => k_is); (case g__law_digits => k_is); (case l__law_digits => k_is); (case c__law_digits => k_is); (case k__law_digits => k_is); (case g__law_entry => k_is); (case l__law_entry => k_is); (case c__law_entry => k_is); (case k__law_entry => k_is); (case g__law_first => k_is); (case l__law_first => k_is); (case c__law_first => k_is); (case k__law_first => k_is); (case g__law_one => k_is); (case l__law_one => k_is); (case c__law_one => k_is); (case k__law_one => k_is); (case g_law => k_is); (case l_law => k_is); (case c_law => k_is); (case k_law => k_is); (case pg_Runs => k_is); (case hd_Runs => k_is); (case po_Runs => k_is); (case sa_Runs => k_is); (case mk_Runs => k_is); (case kc_Runs => k_is); (case na_Runs__borns => k_is); (case c_TEXT => k_is); (case c_SIZE => k_is); (case c_STATE => k_is); (case c_STOP => k_is); (case c_NODE => k_is); (case c_LIFE => k_is); (case n_len => k_is); (case n_abs => k_is); (case n_int => k_is); (case n_sorted => k_is); (case n_str => k_is); (case n_range => k_is)

