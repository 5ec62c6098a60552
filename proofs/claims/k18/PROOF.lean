import PyProof.Rows.All
import Wide.All
import OpenK.AllK
import Wide.FinOn
import HandS.ForMost
import HandS.IsInst
import HandS.EndBits
import HandS.Wide
import HandS.WideBits
import HandS.TupAny
import HandS.Codes
import HandS.Defaults
import HandS.ForExc
import HandS.TryMany
import HandS.ExcIs
import HandS.TryElse
import HandS.DictComp
import HandS.Walk
import HandS.More
import HandS.SetKeys
import HandS.SortKw
import KE.DataMinMax
import KE.KDictSum
import KE.KDictWalk
import PySem.Challenge.RW_majordomo_k18_proposer_keeps
set_option Elab.async false
set_option linter.all false
set_option maxRecDepth 100000
set_option maxHeartbeats 4000000

namespace My
open PySem PySem.Spec PyProof.Rows L2
/-! own words: tests, heaps, items -/
theorem ifd {p A B : Prop} [Decidable p] (h1 : p → A) (h2 : ¬ p → B) : if decide p = true then A else B := by
  by_cases h : p
  · rw [decide_eq_true h]; exact (if_pos rfl).mpr (h1 h)
  · rw [decide_eq_false h]; exact (if_neg Bool.false_ne_true).mpr (h2 h)
theorem ifn {p A B : Prop} [Decidable p] (h1 : ¬ p → A) (h2 : p → B) : if (!decide p) = true then A else B := by
  by_cases h : p
  · rw [decide_eq_true h]; exact (if_neg Bool.false_ne_true).mpr (h2 h)
  · rw [decide_eq_false h]; exact (if_pos rfl).mpr (h1 h)
theorem ift {p A B : Prop} [Decidable p] (h : p) (h1 : A) : if decide p = true then A else B := by
  rw [decide_eq_true h]; exact (if_pos rfl).mpr h1
theorem iff0 {p A B : Prop} [Decidable p] (h : ¬ p) (h1 : B) : if decide p = true then A else B := by
  rw [decide_eq_false h]; exact (if_neg Bool.false_ne_true).mpr h1
theorem ifnt {p A B : Prop} [Decidable p] (h : p) (h1 : B) : if (!decide p) = true then A else B := by
  rw [decide_eq_true h]; exact (if_neg Bool.false_ne_true).mpr h1
theorem ifbt {b : Bool} {A B : Prop} (h : b = true) (h1 : A) : if b = true then A else B := (if_pos h).mpr h1
theorem ifbf {b : Bool} {A B : Prop} (h : b = false) (h1 : B) : if b = true then A else B := by rw [h]; exact h1
theorem ifb2 {b : Bool} {A B : Prop} (h1 : b = true → A) (h2 : b = false → B) : if b = true then A else B := by
  cases b with
  | true => exact h1 rfl
  | false => exact h2 rfl
theorem same_upd {H : Hp} {p : Addr} {o : HO} (h : H p = none) : Same H (upd H p o) := fun b x e => by
  rw [upd_ne (ne_of_none e h)]
  exact e
theorem same_put {H H' : Hp} {p : Addr} {o : HO} (e : Same H H') (h : H p = none) : Same H (upd H' p o) := fun b x q => by
  rw [upd_ne (ne_of_none q h)]
  exact e b x q
theorem sqt_same {K : PySem.W.Frag} {H H' : Hp} {a : Addr} {xs : List V} (e : Same H H') (h : SqT K H a xs) : SqT K H' a xs := by
  rcases h with (h | ⟨o, h⟩) | h
  · exact .inl (.inl (e _ _ h))
  · exact .inl (.inr ⟨o, e _ _ h⟩)
  · exact .inr h
theorem sql {K : PySem.W.Frag} {H : Hp} {a : Addr} {xs : List V} (h : H a = some (.lst xs)) : SqL K H a xs := .inl (.inl h)
theorem sqt {K : PySem.W.Frag} {H : Hp} {a : Addr} {xs : List V} (h : H a = some (.tup xs)) : SqT K H a xs := .inl (.inl h)
theorem sz {n : Nat} (h : n ≤ 100000) : n ≤ sizeLine := Nat.le_trans h (by decide)
theorem szl {n : Nat} (h : n ≤ 100000) : n < sizeLine := Nat.lt_of_le_of_lt h (by decide)
theorem map_at {α : Type} {f : α → V} {xs : List α} {i : Nat} {y : V} (h : (xs.map f)[i]? = some y) : ∃ x, xs[i]? = some x ∧ y = f x := by
  rw [List.getElem?_map] at h
  cases e : xs[i]? with
  | none => rw [e] at h; cases h
  | some x => rw [e] at h; exact ⟨x, rfl, (Option.some.inj h).symm⟩
theorem at_map {α : Type} {f : α → V} {xs : List α} {i : Nat} {x : α} (h : xs[i]? = some x) : atI (xs.map f) (i : Int) = some (f x) := atI_nat (by rw [List.getElem?_map, h]; rfl)
theorem take_more {α : Type} {l : List α} {i : Nat} {x : α} (h : l[i]? = some x) : l.take (i + 1) = l.take i ++ [x] := by
  rw [List.take_add_one, h]; rfl
/-! deep data stands as long as what was tracked stands -/
mutual
theorem dp_same {K : PySem.W.Frag} {H H' : Hp} (e : Same H H') : ∀ (d : PyData) {v : V}, Dp K H v d → Dp K H' v d
  | _, _, .non => .non
  | _, _, .bl b => .bl b
  | _, _, .int i => .int i
  | _, _, .str x => .str x
  | .list ds, _, .lst h a => .lst (e.seq h) (dpa_same e ds a)
  | .tuple ds, _, .tup h a => .tup (sqt_same e h) (dpa_same e ds a)
theorem dpa_same {K : PySem.W.Frag} {H H' : Hp} (e : Same H H') : ∀ (ds : List PyData) {vs : List V}, DpAll K H vs ds → DpAll K H' vs ds
  | [], _, .nil => .nil
  | d :: ds, _, .cons h a => .cons (dp_same e d h) (dpa_same e ds a)
end
theorem dpa_len {K : PySem.W.Frag} {H : Hp} : ∀ {vs : List V} {ds : List PyData}, DpAll K H vs ds → vs.length = ds.length
  | _, _, .nil => rfl
  | _, _, .cons _ a => by rw [List.length_cons, List.length_cons, dpa_len a]
theorem dpa_at {K : PySem.W.Frag} {H : Hp} : ∀ {vs : List V} {ds : List PyData} {i : Nat} {v : V}, DpAll K H vs ds → vs[i]? = some v → ∃ d, ds[i]? = some d ∧ Dp K H v d
  | _, _, _, _, .nil, h => by simp at h
  | _, _, 0, _, .cons h _, e => ⟨_, rfl, by have := Option.some.inj e; subst this; exact h⟩
  | _, _, i + 1, _, .cons _ a, e => dpa_at (i := i) a (by simpa using e)
theorem dpa_app {K : PySem.W.Frag} {H : Hp} : ∀ {vs ws : List V} {ds es : List PyData}, DpAll K H vs ds → DpAll K H ws es → DpAll K H (vs ++ ws) (ds ++ es)
  | _, _, _, _, .nil, b => b
  | _, _, _, _, .cons h a, b => .cons h (dpa_app a b)
theorem eqv_self {d : PyData} (h : SeqAt.shaped d = true) : PyData.eqv d d = true := SeqAt.eqv_refl d (SeqAt.canLay_of_shaped h)
/-! data that may be compared -/
theorem layAll : ∀ {ds : List PyData}, (∀ d ∈ ds, d.canLay0 = true) → PyData.canLayAll0 ds = true
  | [], _ => rfl
  | d :: ds, h => by
    rw [PyData.canLayAll0, h d List.mem_cons_self, layAll fun e he => h e (List.mem_cons_of_mem _ he)]; rfl
theorem depAll {n : Nat} : ∀ {ds : List PyData}, (∀ d ∈ ds, d.depth ≤ n) → PyData.depthAll ds ≤ n
  | [], _ => Nat.zero_le _
  | d :: ds, h => by
    have h1 := h d List.mem_cons_self
    have h2 := depAll (ds := ds) fun e he => h e (List.mem_cons_of_mem _ he)
    simp only [PyData.depthAll]
    omega
/-- plain data of at most this depth -/
def Flat (n : Nat) (d : PyData) : Prop := d.canLay0 = true ∧ d.depth ≤ n
theorem flat_list {n : Nat} {ds : List PyData} (h : ∀ d ∈ ds, Flat n d) : Flat (n + 1) (.list ds) :=
  ⟨by rw [PyData.canLay0]; exact layAll fun d hd => (h d hd).1, by have := depAll (n := n) fun d hd => (h d hd).2; simp only [PyData.depth]; omega⟩
theorem flat_tup {n : Nat} {ds : List PyData} (h : ∀ d ∈ ds, Flat n d) : Flat (n + 1) (.tuple ds) :=
  ⟨by rw [PyData.canLay0]; exact layAll fun d hd => (h d hd).1, by have := depAll (n := n) fun d hd => (h d hd).2; simp only [PyData.depth]; omega⟩
theorem flat_int (n : Nat) (i : Int) : Flat n (.int i) := ⟨rfl, by simp [PyData.depth]⟩
theorem flat_str (n : Nat) (x : Str) (h : (PyData.str x).canLay0 = true := by decide +kernel) : Flat n (.str x) := ⟨h, by simp [PyData.depth]⟩
theorem flat_bl (n : Nat) (b : Bool) : Flat n (.bool b) := ⟨rfl, by simp [PyData.depth]⟩
theorem flat_non (n : Nat) : Flat n .none := ⟨rfl, by simp [PyData.depth]⟩
theorem Flat.mono {n m : Nat} {d : PyData} (h : Flat n d) (hm : n ≤ m) : Flat m d := ⟨h.1, Nat.le_trans h.2 hm⟩
theorem Flat.sh {n : Nat} {d : PyData} (h : Flat n d) (hn : n ≤ 64) : SeqAt.shaped d = true := by
  show (d.canLay0 && decide (d.depth ≤ 64)) = true
  rw [Bool.and_eq_true]
  exact ⟨h.1, decide_eq_true (Nat.le_trans h.2 hn)⟩
theorem tyx_t {K : PySem.W.Frag} {H : Hp} {a : Addr} {xs : List V} (h : SqT K H a xs) : TyX K H (.ref a) (.type "tuple") := by
  rcases h with (h | ⟨o, h⟩) | ⟨o, its, n, h, hc, _⟩
  · exact .base (.tup h)
  · exact .fTuple h
  · exact .kTuple h hc
theorem tyx_l {K : PySem.W.Frag} {H : Hp} {a : Addr} {xs : List V} (h : SqL K H a xs) : TyX K H (.ref a) (.type "list") := by
  rcases h with (h | ⟨o, h⟩) | ⟨o, its, n, h, hc, _⟩
  · exact .base (.lst h)
  · exact .base (.frz h)
  · exact .kList h hc
theorem same_both {G H : Hp} {t : Addr} {x : HO} (e : Same G H) : Same (upd G t x) (upd H t x) := fun b o h => by
  by_cases hb : b = t
  · subst hb; rw [upd_same] at h ⊢; exact h
  · rw [upd_ne hb] at h ⊢; exact e b o h
theorem set_self {α : Type} : ∀ {l : List α} {i : Nat} {x : α}, l[i]? = some x → l.set i x = l
  | [], i, x, h => by simp at h
  | a :: l, 0, x, h => by
    have e : a = x := Option.some.inj h
    subst e
    rfl
  | a :: l, i + 1, x, h => by
    show a :: l.set i x = a :: l
    rw [set_self (by simpa using h)]
theorem ixn {n j : Nat} {i : Int} (hi : i = (j : Int)) (hj : j < n) : ixN n i = some j := by
  unfold ixN
  rw [if_pos (by omega), if_pos (by omega)]
  congr 1
  omega
/-! shifts and masks in place -/
section
variable {X : Cx}
theorem ip_shr : PIp X .RShift (fun x y H Q => ∃ (i : Int) (k : Nat), x = .int i ∧ y = .int (k : Int) ∧ Q (.int (i / 2 ^ k)) H) := by
  intro pins s σ H x y v u Q I r1 r2 h
  obtain ⟨i, k, e1, e2, q⟩ := h
  subst e1; subst e2
  obtain ⟨t, rfl⟩ := r1
  obtain ⟨t', rfl⟩ := r2
  refine irshift_int (Int.natCast_nonneg k) ⟨.int _, H, I.tok _, ⟨_, rfl⟩, ?_⟩
  rw [Int.toNat_natCast, Int.fdiv_eq_ediv_of_nonneg _ (Int.le_of_lt (Int.pow_pos (by decide)))]
  exact q
theorem ip_or : PIp X .BitOr (fun x y H Q => ∃ (r a : Int) (k : Nat), x = .int r ∧ y = .int (a * 2 ^ k) ∧ (0 ≤ a ∧ 0 ≤ r ∧ r < 2 ^ k) ∧ Q (.int (r + a * 2 ^ k)) H) := by
  intro pins s σ H x y v u Q I r1 r2 h
  obtain ⟨r, a, k, e1, e2, ⟨h0, h1, h2⟩, q⟩ := h
  subst e1; subst e2
  obtain ⟨t, rfl⟩ := r1
  obtain ⟨t', rfl⟩ := r2
  refine ior_int ⟨.int _, H, I.tok _, ⟨_, rfl⟩, ?_⟩
  have e : Builtin.bitOr r (a * 2 ^ k) = r + a * 2 ^ k := by
    have hp : (0 : Int) ≤ a * 2 ^ k := Int.mul_nonneg h0 (Int.le_of_lt (Int.pow_pos (by decide)))
    rw [bitOr_nn h1 hp, Nat.or_comm, ← bitOr_nn hp h1, or_low h0 h1 h2, Int.add_comm]
  rw [e]
  exact q
end
theorem bits_small : ∀ n : Nat, n < 128 → Builtin.Int.intBits (n : Int) ≤ 8 := by decide +kernel
/-- isinstance(e, c) of the error that a suite holds, its class known by the reading -/
theorem call_isE1 {X : Cx} {a D : Addr} {oe : Obj} {cls : Value} {d : Option Addr} {pn : List (Addr × Obj)} (C : ExcC X.K D) (hz : Zc cls d oe) (hf : ∃ vs, oe.data = .fields vs) :
    CallR (X.suite a ((a, oe) :: pn)) (.builtin "isinstance") (fun xs H Q => cls = .ref D ∧ d = none ∧ rIsE X.K D a xs H Q) := fun pins s σ H xs us Q I r h => by
  obtain ⟨h1, h2, h⟩ := h
  subst h1
  subst h2
  exact call_isE C hz hf pins s σ H xs us Q I r h
/-! slices -/
theorem sIx_le {n d : Nat} {i : Nat} : HT.sIx n d (some (i : Int)) = min i n := HT.sIx_nat n d i
theorem cut0n (xs : List V) (j : Nat) : cutV xs none (some (j : Int)) = xs.take j := by
  unfold cutV
  rw [sIx_le, HT.sIx_none, List.drop_zero, Nat.sub_zero]
  exact (List.take_eq_take_min).symm
theorem cutnn (xs : List V) (i j : Nat) : cutV xs (some (i : Int)) (some (j : Int)) = (xs.drop i).take (j - i) := by
  unfold cutV
  rw [sIx_le, sIx_le]
  by_cases hi : i ≤ xs.length
  · rw [Nat.min_eq_left hi]
    by_cases hj : j ≤ xs.length
    · rw [Nat.min_eq_left hj]
    · rw [Nat.min_eq_right (by omega), List.take_of_length_le (by rw [List.length_drop]; omega), List.take_of_length_le (by rw [List.length_drop]; omega)]
  · have e : min i xs.length = xs.length := by omega
    rw [e, List.drop_of_length_le (Nat.le_refl _), List.drop_of_length_le (show xs.length ≤ i by omega), List.take_nil, List.take_nil]
theorem cut_ints (ns : List Int) {i j : Nat} {a b : Int} (ha : a = i) (hb : b = j) : cutV (ns.map V.int) (some a) (some b) = ((ns.drop i).take (j - i)).map V.int := by
  rw [ha, hb, cutnn, ← List.map_drop, ← List.map_take]
theorem rep_ints (ns : List Int) (k : Nat) : (List.replicate k (ns.map V.int)).flatten = (List.replicate k ns).flatten.map V.int := by
  rw [List.map_flatten, List.map_replicate]
/-- [e for x in a slice], e changes nothing -/
theorem lc_cut {K : PySem.W.Frag} {wi : TI} {te : TE} {s : Nat} {σ : L2.St} {H : Hp} {Q : VK} (xs : List V) (f : V → V)
    (hwi : ∀ R : It → Hp → Prop, (∀ p, H p = none → R (Itl K p) (upd H p (.lst xs))) → wi σ H R) (hlen : xs.length ≤ 90000)
    (hw : ∀ x, wipe ((wipe σ [s]).set s (some x)) [s] = wipe σ [s])
    (he : ∀ (i : Nat) (x : V) (G : Hp) (Q' : VK), xs[i]? = some x → Same H G → Q' (f x) G → te ((wipe σ [s]).set s (some x)) G Q')
    (k : ∀ D H', H D = none → Same H H' → H' D = some (.lst (xs.map f)) → Q (.ref D) H') : tLc wi (gName s) tYes te [s] σ H Q := by
  refine hwi _ fun p hp D hD => ?_
  have nD : D ≠ p := fun z => by rw [z, upd_same] at hD; cases hD
  have hD0 : H D = none := by rw [upd_ne nD] at hD; exact hD
  refine lc_list (K := K) (a := p) (xs := xs) (fun i H' => Same H H' ∧ H' p = some (.lst xs) ∧ H' D = some (.lst ((xs.take i).map f)))
    ⟨(same_upd hp).trans (same_upd hD), by rw [upd_ne nD.symm, upd_same], by rw [upd_same]; rfl⟩ (fun i H' _ h => sql h.2.1) (fun i x G hx hG => ?_) (fun G hG => ?_)
  · refine ⟨hw x, ?_⟩
    refine he i x G _ hx hG.1 ⟨_, hG.2.2, szl (by rw [List.length_map, List.length_take]; omega), same_put hG.1 hD0, by rw [upd_ne nD.symm]; exact hG.2.1, ?_⟩
    rw [upd_same, take_more hx, List.map_append]
    rfl
  · refine k D G hD0 hG.1 ?_
    rw [List.take_length] at hG
    exact hG.2.2
/-- lists of ints as data -/
theorem dpa_ints {K : PySem.W.Frag} {H : Hp} : ∀ ns : List Int, DpAll K H (ns.map V.int) (ns.map PyData.int)
  | [] => .nil
  | n :: ns => .cons (.int n) (dpa_ints ns)
theorem dp_ints {K : PySem.W.Frag} {H : Hp} {a : Addr} {ns : List Int} (h : SqL K H a (ns.map V.int)) : Dp K H (.ref a) (.list (ns.map PyData.int)) := .lst h (dpa_ints ns)
theorem flat_ints (ns : List Int) : Flat 1 (.list (ns.map PyData.int)) := flat_list (n := 0) fun d hd => by
  obtain ⟨i, _, rfl⟩ := List.mem_map.mp hd
  exact flat_int _ _
theorem flat_tints (ns : List Int) : Flat 1 (.tuple (ns.map PyData.int)) := flat_tup (n := 0) fun d hd => by
  obtain ⟨i, _, rfl⟩ := List.mem_map.mp hd
  exact flat_int _ _
theorem eqvAll_ints : ∀ xs ys : List Int, PyData.eqvAll (xs.map .int) (ys.map .int) = decide (xs = ys)
  | [], [] => rfl
  | [], _ :: _ => rfl
  | _ :: _, [] => rfl
  | x :: xs, y :: ys => by
    show ((x == y) && PyData.eqvAll (xs.map .int) (ys.map .int)) = _
    rw [eqvAll_ints xs ys, Bool.eq_iff_iff]
    simp
theorem eqv_ints (xs ys : List Int) : PyData.eqv (.list (xs.map .int)) (.list (ys.map .int)) = decide (xs = ys) := eqvAll_ints xs ys
theorem eqv_tints (xs ys : List Int) : PyData.eqv (.tuple (xs.map .int)) (.tuple (ys.map .int)) = decide (xs = ys) := eqvAll_ints xs ys
/-- a def with defaults that lets nothing out -/
theorem okD {P : Program} {w : World} {K : PySem.W.Frag} {mg : Str → Option Value} {base : Heap} {x qual : Str} {params : Arguments} {body : List Stmt} {scope : Scope} {dvs : List V} {kws : List (Str × V)} {f : Addr} {fd : FuncData} {N ps : List Str} {k : Nat} {sp : Sp}
    (F : FunD K x qual params body scope dvs kws f fd) (S : FnScope N ps scope) (len : ∀ vs H Q E, sp vs H Q E → vs.length = ps.length)
    (hb : ∀ (cdv : Value) (A : Around) (outer : List Env) (s : Shared) (H : Hp) (vs : List V) (Q : VK) (E : XK), Room k (A.deeper (envOfC qual scope s.heap.objs.size f cdv)) → sp vs H Q E →
      ∃ t, PSs (cxOf CX0 P w K mg base N qual scope f cdv A outer s H E).nox body t ∧ t { nx := fun _ H' => Q .non H', rt := Q } (start N vs) H) : FnOk P w K mg base CX0 (k + 1) f fd ps sp :=
  F.ok S len fun cdv A outer s H vs Q E hr h => by
    obtain ⟨t, h1, q⟩ := hb cdv A outer s H vs Q E hr h
    exact ⟨t, h1.nox, q⟩
/-! what an expression gives, whatever stands besides -/
def EI (te : TE) (σ : L2.St) (H : Hp) (v : V) : Prop := ∀ G, Same H G → ∀ Q : VK, Q v G → te σ G Q
def EA (ta : TA) (σ : L2.St) (H : Hp) (vs : List V) : Prop := ∀ G, Same H G → ∀ Q : List V → Hp → Prop, Q vs G → ta σ G Q
/-- a list, new or old -/
def EL (te : TE) (σ : L2.St) (H : Hp) (xs : List V) : Prop := ∀ G, Same H G → ∀ Q : VK, (∀ p G', Same G G' → G' p = some (.lst xs) → Q (.ref p) G') → te σ G Q
section
variable {K : PySem.W.Frag} {σ : L2.St} {H : Hp} {ta tb te : TE} {x y z v : V} {xs ys : List V}
theorem ei_var {i : Nat} (h : σ[i]? = some (some v)) : EI (tVar i) σ H v := fun _ _ _ q => ⟨v, h, q⟩
theorem ei_c : EI (tC v) σ H v := fun _ _ _ q => q
theorem ei_op {r : R2} (ha : EI ta σ H x) (hb : EI tb σ H y) (hr : ∀ G, Same H G → ∀ Q : VK, Q z G → r x y G Q) : EI (tOp r ta tb) σ H z := fun G s Q q => ha G s _ (hb G s _ (hr G s Q q))
theorem ei_i0 {g : Int → Int → V} {i j : Int} (ha : EI ta σ H (.int i)) (hb : EI tb σ H (.int j)) : EI (tOp (rI0 g) ta tb) σ H (g i j) := ei_op ha hb fun _ _ _ q => ⟨i, j, rfl, rfl, q⟩
theorem ei_ic {C : Int → Int → Prop} {g : Int → Int → V} {i j : Int} (ha : EI ta σ H (.int i)) (hb : EI tb σ H (.int j)) (hc : C i j) : EI (tOp (rI C g) ta tb) σ H (g i j) := ei_op ha hb fun _ _ _ q => ⟨i, j, rfl, rfl, hc, q⟩
theorem ea_nil : EA tNil σ H [] := fun _ _ _ q => q
theorem ea_cons {tr : TA} {vs : List V} (h : EI ta σ H x) (g : EA tr σ H vs) : EA (tCons ta tr) σ H (x :: vs) := fun G s _ q => h G s _ (g G s _ q)
theorem ei_cb {r : List V → Hp → VK → Prop} {tr : TA} {vs : List V} (ha : EA tr σ H vs) (hr : ∀ G, Same H G → ∀ Q : VK, Q z G → r vs G Q) : EI (tCB r tr) σ H z := fun G s Q q => ha G s _ (hr G s Q q)
/-- len of a list, list(..) of a list or a tuple, as they are read -/
def rLen (K : PySem.W.Frag) : List V → Hp → VK → Prop := fun xs H Q => ∃ p ys, xs = [.ref p] ∧ (SqL K H p ys ∨ SqT K H p ys) ∧ Q (.int ys.length) H
def rLst (K : PySem.W.Frag) : List V → Hp → VK → Prop := fun xs H Q => ∃ p ys, xs = [.ref p] ∧ (SqL K H p ys ∨ SqT K H p ys) ∧ ∀ l, H l = none → Q (.ref l) (upd H l (.lst ys))
def rTup (K : PySem.W.Frag) : List V → Hp → VK → Prop := fun xs H Q => ∃ p ys, xs = [.ref p] ∧ ((SqL K H p ys ∧ ∀ l, H l = none → Q (.ref l) (upd H l (.tup ys))) ∨ (SqT K H p ys ∧ Q (.ref p) H))
theorem callK_tuple {X : Cx} (h : X.K = K) : CallR X (.type "tuple") (rTup K) := by subst h; exact call_tuple_of
theorem callK_list {X : Cx} (h : X.K = K) : CallR X (.type "list") (rLst K) := by subst h; exact call_list_of
theorem opK_catA {X : Cx} (h : X.K = K) : OpR X (binaryOp .Add) (rCatA K) := by subst h; exact op_catA
theorem ixK_list {X : Cx} (h : X.K = K) : IxR X (rIxL K) := by subst h; exact ix_list
theorem ixK_tup {X : Cx} (h : X.K = K) : IxR X (rIxT K) := by subst h; exact ix_tup
theorem pe_fldK {X : Cx} {e : Expr} {f : Str} {pos : Pos} {ta : TE} (h : X.K = K) (he : PE X e ta) (hb : attributeBase e f X.env (eval e X.env) = eval e X.env) : PE X (.Attribute e f pos) (tFld K ta f) := by subst h; exact pe_fld he hb
theorem callK_len {X : Cx} (h : X.K = K) : CallR X (.builtin "len") (rLen K) := by subst h; exact call_len_seq
theorem ei_lenL {i : Nat} {p : Addr} (h : σ[i]? = some (some (.ref p))) (e : SqL K H p xs) : EI (tCB (rLen K) (tCons (tVar i) tNil)) σ H (.int (xs.length : Int)) := ei_cb (ea_cons (ei_var h) ea_nil) fun _ s _ q => ⟨p, xs, rfl, .inl (s.seq e), q⟩
theorem ei_lenT {i : Nat} {p : Addr} (h : σ[i]? = some (some (.ref p))) (e : SqT K H p xs) : EI (tCB (rLen K) (tCons (tVar i) tNil)) σ H (.int (xs.length : Int)) := ei_cb (ea_cons (ei_var h) ea_nil) fun _ s _ q => ⟨p, xs, rfl, .inr (sqt_same s e), q⟩
theorem ei_fld {i : Nat} {p C dx : Addr} {fs : List (Str × V)} {f : Str} (h : σ[i]? = some (some (.ref p))) (hp : H p = some (.ins C dx fs)) (c : Cls K C) (n : NoAttr K C f) (l : fs.lookup f = some v) : EI (tFld K (tVar i) f) σ H v := fun _ s _ q => ⟨.ref p, h, p, C, dx, fs, v, rfl, s _ _ hp, c, n, l, q⟩
theorem ei_din {td : TE} {d : Addr} {kvs : List (Key × V)} {k : Key} (hy : EI te σ H (kV k)) (hd : EI td σ H (.ref d)) (e : H d = some (.dK kvs)) : EI (tDIn te td) σ H (.bl (valV kvs k).isSome) := fun G s _ q => hy G s _ (hd G s _ ⟨d, _, rfl, DGet.k (s _ _ e), q⟩)
theorem ei_dnotin {td : TE} {d : Addr} {kvs : List (Key × V)} {k : Key} (hy : EI te σ H (kV k)) (hd : EI td σ H (.ref d)) (e : H d = some (.dK kvs)) : EI (tDNotIn te td) σ H (.bl (!(valV kvs k).isSome)) := fun G s _ q => hy G s _ (hd G s _ ⟨d, _, rfl, DGet.k (s _ _ e), q⟩)
theorem ei_dget {td : TE} {d : Addr} {kvs : List (Key × V)} {k : Key} (hy : EI te σ H (kV k)) (hd : EI td σ H (.ref d)) (e : H d = some (.dK kvs)) (hv : valV kvs k = some v) : EI (tDGet td te) σ H v := fun G s _ q => hd G s _ (hy G s _ ⟨d, v, rfl, by rw [← hv]; exact DGet.k (s _ _ e), q⟩)
theorem ei_ixL {p : Addr} {j : Int} (ha : EI ta σ H (.ref p)) (hi : EI tb σ H (.int j)) (e : SqL K H p xs) (h : atI xs j = some v) : EI (tOp (rIxL K) ta tb) σ H v := ei_op ha hi fun _ s _ q => ⟨p, xs, j, v, rfl, rfl, s.seq e, h, q⟩
theorem ei_ixT {p : Addr} {j : Int} (ha : EI ta σ H (.ref p)) (hi : EI tb σ H (.int j)) (e : SqT K H p xs) (h : atI xs j = some v) : EI (tOp (rIxT K) ta tb) σ H v := ei_op ha hi fun _ s _ q => ⟨p, xs, j, v, rfl, rfl, sqt_same s e, h, q⟩
theorem ei_eq (ha : EI ta σ H x) (hb : EI tb σ H y) (h : scal x y = true) : EI (tOp rEq ta tb) σ H (.bl (decide (x = y))) := ei_op ha hb fun _ _ _ q => ⟨h, q⟩
theorem ei_ne (ha : EI ta σ H x) (hb : EI tb σ H y) (h : scal x y = true) : EI (tOp rNe ta tb) σ H (.bl (!decide (x = y))) := ei_op ha hb fun _ _ _ q => ⟨h, q⟩
/-- a test by its value -/
theorem tt_use {b : Bool} {Q : Bool → Hp → Prop} (h : EI te σ H (.bl b)) (k : Q b H) : tTest te σ H Q := h H (Same.refl _) _ ⟨b, rfl, k⟩
theorem tb_use {b : Bool} {Q : Bool → Hp → Prop} (h : EI te σ H (.bl b)) (k : Q b H) : tB te σ H Q := h H (Same.refl _) _ ⟨b, rfl, k⟩
theorem el_var {i : Nat} {p : Addr} (h : σ[i]? = some (some (.ref p))) (e : H p = some (.lst xs)) : EL (tVar i) σ H xs := fun G s _ q => ⟨.ref p, h, q p G (Same.refl _) (s _ _ e)⟩
/-- a new list -/
def EN (te : TE) (σ : L2.St) (H : Hp) (xs : List V) : Prop := ∀ G, Same H G → ∀ Q : VK, (∀ p G', G p = none → Same G G' → G' p = some (.lst xs) → Q (.ref p) G') → te σ G Q
theorem EN.el (h : EN te σ H xs) : EL te σ H xs := fun G s Q q => h G s Q fun p G' _ => q p G'
theorem en_lst {tr : TA} {vs : List V} (ha : EA tr σ H vs) (hl : vs.length ≤ 90000) : EN (tLst tr) σ H vs := fun G s _ q => ha G s _ ⟨sz (by omega), fun p hp => q p _ hp (same_upd hp) upd_same⟩
theorem en_cat (ha : EL ta σ H xs) (hb : EL tb σ H ys) (hl : xs.length + ys.length ≤ 90000) : EN (tOp rCat ta tb) σ H (xs ++ ys) := fun G s _ q =>
  ha G s _ fun p G1 s1 e1 => hb G1 (s.trans s1) _ fun p2 G2 s2 e2 => ⟨p, p2, xs, ys, rfl, rfl, s2 _ _ e1, e2, sz (by omega), fun p3 h3 => q p3 _ ((s1.trans s2).free h3) ((s1.trans s2).trans (same_upd h3)) upd_same⟩
theorem en_rep {k : Int} (ha : EL ta σ H xs) (hb : EI tb σ H (.int k)) (h1 : -1000000 ≤ k) (h2 : k ≤ 1000000) (hl : xs.length * k.toNat ≤ 90000) : EN (tOp rRep ta tb) σ H (List.replicate k.toNat xs).flatten := fun G s _ q =>
  ha G s _ fun p G1 s1 e1 => hb G1 (s.trans s1) _ ⟨p, k, xs, rfl, rfl, e1, by omega, by omega, sz (by omega), fun p3 h3 => q p3 _ (s1.free h3) (s1.trans (same_upd h3)) upd_same⟩
theorem el_lst {tr : TA} {vs : List V} (ha : EA tr σ H vs) (hl : vs.length ≤ 90000) : EL (tLst tr) σ H vs := (en_lst ha hl).el
theorem el_cat (ha : EL ta σ H xs) (hb : EL tb σ H ys) (hl : xs.length + ys.length ≤ 90000) : EL (tOp rCat ta tb) σ H (xs ++ ys) := (en_cat ha hb hl).el
theorem el_rep {k : Int} (ha : EL ta σ H xs) (hb : EI tb σ H (.int k)) (h1 : -1000000 ≤ k) (h2 : k ≤ 1000000) (hl : xs.length * k.toNat ≤ 90000) : EL (tOp rRep ta tb) σ H (List.replicate k.toNat xs).flatten := (en_rep ha hb h1 h2 hl).el
theorem el_cb {r : List V → Hp → VK → Prop} {tr : TA} {vs : List V} (ha : EA tr σ H vs) (hr : ∀ G, Same H G → ∀ Q : VK, (∀ p G', Same G G' → G' p = some (.lst xs) → Q (.ref p) G') → r vs G Q) : EL (tCB r tr) σ H xs := fun G s Q q => ha G s _ (hr G s Q q)
theorem el_call {sp : Sp} {dvs : List V} {E : XK} {tr : TA} {vs : List V} (ha : EA tr σ H vs) (hr : ∀ G, Same H G → ∀ Q : VK, (∀ p G', Same G G' → G' p = some (.lst xs) → Q (.ref p) G') → sp (vs ++ dvs) G Q E) : EL (tCall sp dvs E tr) σ H xs := fun G s Q q => ha G s _ (hr G s Q q)
theorem el_listL {i : Nat} {p : Addr} (h : σ[i]? = some (some (.ref p))) (e : SqL K H p xs) : EL (tCB (rLst K) (tCons (tVar i) tNil)) σ H xs := el_cb (ea_cons (ei_var h) ea_nil) fun _ s _ q => ⟨p, xs, rfl, .inl (s.seq e), fun l hl => q l _ (same_upd hl) upd_same⟩
theorem el_listT {i : Nat} {p : Addr} (h : σ[i]? = some (some (.ref p))) (e : SqT K H p xs) : EL (tCB (rLst K) (tCons (tVar i) tNil)) σ H xs := el_cb (ea_cons (ei_var h) ea_nil) fun _ s _ q => ⟨p, xs, rfl, .inr (sqt_same s e), fun l hl => q l _ (same_upd hl) upd_same⟩
/-- x = an expression that gives a list -/
theorem EL.use {Q : VK} (h : EL te σ H xs) (k : ∀ p H', Same H H' → H' p = some (.lst xs) → Q (.ref p) H') : te σ H Q := h H (Same.refl _) Q k
theorem EN.use {Q : VK} (h : EN te σ H xs) (k : ∀ p H', H p = none → Same H H' → H' p = some (.lst xs) → Q (.ref p) H') : te σ H Q := h H (Same.refl _) Q k
theorem EI.use {Q : VK} (h : EI te σ H v) (k : Q v H) : te σ H Q := h H (Same.refl _) Q k
end
/-- defaults: what is bound where keywords give the rest -/
theorem kb_one {K : PySem.W.Frag} {x qual : Str} {params : Arguments} {body : List Stmt} {scope : Scope} {dvs : List V} {f : Addr} {fd : FuncData} {ps : List Str} (F : FunD K x qual params body scope dvs [] f fd) (n : Nat) (ks : List Str) (hd : dvs ≠ [])
    (h : ∀ (T : Addr) (kV doc pm : Value) (an : Option Addr) (cdv ct : Value) (us ws its : List Value), us.length = n → ws.length = ks.length → its.length = dvs.length →
      ∃ k, bindArgs (PySem.W.fnOf x qual params body scope (.ref T) kV doc pm an cdv ct) ⟨us, ks.zip ws⟩ = seqItems? (.ref T) >>= k ∧ k (some its.toArray) = pure (ps.zip (us ++ ws))) :
    KBn K fd ps n ks (fun us ws => us ++ ws) (fun vs zs => vs ++ zs) := by
  obtain ⟨oc, od, dV, kV, doc, pm, an, cdv, ct, osl, rfl, lk, hcd, hD, hK⟩ := F.ex
  rcases hD with ⟨e, _⟩ | ⟨_, T, o, its, m, rfl, lT, oT, rT⟩
  · exact absurd e hd
  · refine ⟨fun s us ws X h1 h2 => BindsTo.of_looks fun M => ?_, fun r1 r2 => r1.append r2⟩
    obtain ⟨k, e1, e2⟩ := h T kV doc pm an cdv ct us ws its h1 h2 rT.length.symm
    rw [e1]
    exact looks_items X lT oT (.of_pure e2)
theorem andV_use {ta tb : TE} {σ : L2.St} {H : Hp} {Q : VK} {x y : Bool} (h1 : EI ta σ H (.bl x)) (h2 : x = true → ∀ Q' : VK, (∀ H', Same H H' → Q' (.bl y) H') → tb σ H Q') (k : ∀ H', Same H H' → Q (.bl (x && y)) H') : tAndV ta tb σ H Q := by
  refine h1 H (Same.refl _) _ ⟨x, rfl, ?_⟩
  cases x with
  | true => exact (if_pos rfl).mpr (h2 rfl _ k)
  | false => exact (if_neg Bool.false_ne_true).mpr (k H (Same.refl _))
/-- what is locked and let go stands as it stood -/
theorem unlock {H H' : Hp} {d : Addr} {od : Obj} {u : HO} (e : H d = some u) (s : Same (upd H d (.frz od u)) H') : Same H (upd H' d u) := fun b o h => by
  by_cases hb : b = d
  · subst hb
    rw [upd_same, ← e]
    exact h
  · rw [upd_ne hb]
    exact s b o (by rw [upd_ne hb]; exact h)
theorem take_filter {α : Type} {l : List α} {i : Nat} {x : α} (f : α → Bool) (h : l[i]? = some x) : (l.take (i + 1)).filter f = (l.take i).filter f ++ if f x then [x] else [] := by
  rw [take_more h, List.filter_append]
  cases e : f x <;> simp [e]
/-- [e for k in d if t] over the keys of a dict, t and e change nothing -/
theorem lc_keys {td te : TE} {tt : TT} {s : Nat} {σ : L2.St} {H : Hp} {Q : VK} (d : Addr) (kvs : List (Key × V)) (f : Key → Bool) (g : Key → V) (e : H d = some (.dK kvs)) (hlen : kvs.length ≤ 90000)
    (htd : ∀ od, EI td σ (upd H d (.frz od (.dK kvs))) (.ref d))
    (hw : ∀ x, wipe ((wipe σ [s]).set s (some x)) [s] = wipe σ [s])
    (ht : ∀ (od : Obj) (i : Nat) (k : Key) (v : V) (G : Hp) (Q' : Bool → Hp → Prop), kvs[i]? = some (k, v) → Same (upd H d (.frz od (.dK kvs))) G → Q' (f k) G → tt ((wipe σ [s]).set s (some (kV k))) G Q')
    (he : ∀ (od : Obj) (i : Nat) (k : Key) (v : V) (G : Hp) (Q' : VK), kvs[i]? = some (k, v) → Same (upd H d (.frz od (.dK kvs))) G → Q' (g k) G → te ((wipe σ [s]).set s (some (kV k))) G Q')
    (k : ∀ D H', H D = none → Same H H' → H' D = some (.lst ((kvs.filter fun kv => f kv.1).map fun kv => g kv.1)) → Q (.ref D) H') : tLockE (tLc (iKeys td) (gName s) tt te [s]) σ H Q := by
  refine ⟨d, _, e, trivial, fun od => htd od _ (Same.refl _) _ ⟨d, od, rfl, .inl ⟨kvs, upd_same, fun D hD => ?_⟩⟩⟩
  have nD : D ≠ d := fun z => by rw [z, upd_same] at hD; cases hD
  have hD0 : H D = none := by rw [upd_ne nD] at hD; exact hD
  refine lc_it walk_keys (fun i G => Same (upd H d (.frz od (.dK kvs))) G ∧ G D = some (.lst (((kvs.take i).filter fun kv => f kv.1).map fun kv => g kv.1)))
    ⟨same_upd hD, upd_same⟩ (fun i G _ h => h.1 _ _ upd_same) (fun i x G G' hi hG hy => ?_) (fun G hG => ?_)
  · obtain ⟨rfl, key, v, hkv, rfl⟩ := hy
    have hfl : ((kvs.take i).filter fun kv => f kv.1).length ≤ 90000 := Nat.le_trans (List.length_filter_le _ _) (by rw [List.length_take]; omega)
    refine ⟨hw _, ht od i key v _ _ hkv hG.1 ?_⟩
    have hts := take_filter (fun kv : Key × V => f kv.1) hkv
    cases hf : f key with
    | true =>
      refine (if_pos rfl).mpr (he od i key v _ _ hkv hG.1 ⟨_, hG.2, szl (by rw [List.length_map]; omega), same_put hG.1 hD, ?_⟩)
      rw [upd_same, hts, List.map_append]
      simp only [hf, if_true]
      rfl
    | false =>
      refine (if_neg Bool.false_ne_true).mpr ⟨hG.1, ?_⟩
      rw [hts]
      simp only [hf, Bool.false_eq_true, if_false, List.append_nil]
      exact hG.2
  · rw [List.take_length] at hG
    refine ⟨hG.1 _ _ upd_same, k D _ hD0 (unlock e hG.1) ?_⟩
    rw [upd_ne nD]
    exact hG.2
theorem put_fresh {kvs : List (Key × V)} {k : Key} {v : V} (h : ∀ kv ∈ kvs, kv.1 ≠ k) : putK kvs k v = kvs ++ [(k, v)] := by
  unfold putK
  rw [if_neg]
  intro z
  obtain ⟨kv, hm, hk⟩ := List.any_eq_true.mp z
  exact h kv hm (of_decide_eq_true hk)
theorem nd_ne {α β : Type} {l : List (α × β)} {i : Nat} {x : α × β} (nd : (l.map (·.1)).Nodup) (h : l[i]? = some x) : ∀ y ∈ l.take i, y.1 ≠ x.1 := fun y hy z => by
  obtain ⟨j, hj, rfl⟩ := List.getElem_of_mem hy
  rw [List.length_take] at hj
  rw [List.getElem_take] at z
  obtain ⟨hi, rfl⟩ := List.getElem?_eq_some_iff.mp h
  have e1 : (l.map (·.1))[j]? = some l[i].1 := by rw [List.getElem?_map, List.getElem?_eq_getElem (by omega), ← z]; rfl
  have e2 : (l.map (·.1))[i]? = some l[i].1 := by rw [List.getElem?_map, List.getElem?_eq_getElem hi]; rfl
  have := nd_ix nd e1 e2
  omega
/-- {k: e for k in d if t} over the keys of a dict -/
theorem dc_keys {td tv : TE} {tt : TT} {s : Nat} {σ : L2.St} {H : Hp} {Q : VK} (d : Addr) (kvs : List (Key × V)) (f : Key → Bool) (g : Key × V → V) (e : H d = some (.dK kvs)) (hlen : kvs.length ≤ 90000) (nd : (kvs.map (·.1)).Nodup)
    (htd : ∀ od, EI td σ (upd H d (.frz od (.dK kvs))) (.ref d))
    (hw : ∀ x, wipe ((wipe σ [s]).set s (some x)) [s] = wipe σ [s])
    (ht : ∀ (od : Obj) (i : Nat) (k : Key) (v : V) (G : Hp) (Q' : Bool → Hp → Prop), kvs[i]? = some (k, v) → Same (upd H d (.frz od (.dK kvs))) G → Q' (f k) G → tt ((wipe σ [s]).set s (some (kV k))) G Q')
    (he : ∀ (od : Obj) (i : Nat) (k : Key) (v : V) (G : Hp) (Q' : VK), kvs[i]? = some (k, v) → f k = true → Same (upd H d (.frz od (.dK kvs))) G → Q' (g (k, v)) G → tv ((wipe σ [s]).set s (some (kV k))) G Q')
    (hn : ∀ i, (wipe σ [s]).length = i → s < i)
    (k : ∀ D H', H D = none → Same H H' → H' D = some (.dK ((kvs.filter fun kv => f kv.1).map fun kv => (kv.1, g kv))) → Q (.ref D) H') : tLockE (tDc (iKeys td) (gName s) tt (tVar s) tv [s]) σ H Q := by
  have hs : s < (wipe σ [s]).length := hn _ rfl
  refine ⟨d, _, e, trivial, fun od => htd od _ (Same.refl _) _ ⟨d, od, rfl, .inl ⟨kvs, upd_same, fun D hD => ?_⟩⟩⟩
  have nD : D ≠ d := fun z => by rw [z, upd_same] at hD; cases hD
  have hD0 : H D = none := by rw [upd_ne nD] at hD; exact hD
  let Pv : Nat → Hp → Prop := fun i G => Same (upd H d (.frz od (.dK kvs))) G ∧ G D = some (.dK (((kvs.take i).filter fun kv => f kv.1).map fun kv => (kv.1, g kv)))
  have step : ∀ i x G G', i < kvs.length → Pv i G → (G' = G ∧ ∃ k v, kvs[i]? = some (k, v) ∧ x = kV k) → gName s x (wipe σ [s]) G' fun σ2 H2 => wipe σ2 [s] = wipe σ [s] ∧ tt σ2 H2 fun b H3 =>
      if b = true then tVar s σ2 H3 fun y H4 => tv σ2 H4 fun z H5 => ∃ kvs' k', y = kV k' ∧ H5 D = some (.dK kvs') ∧ kvs'.length < sizeLine ∧ Pv (i + 1) (upd H5 D (.dK (putK kvs' k' z))) else Pv (i + 1) H3 := fun i x G G' hi hG hy => by
    obtain ⟨rfl, key, v, hkv, rfl⟩ := hy
    have hfl : ((kvs.take i).filter fun kv => f kv.1).length ≤ 90000 := Nat.le_trans (List.length_filter_le _ _) (by rw [List.length_take]; omega)
    refine ⟨hw _, ht od i key v _ _ hkv hG.1 ?_⟩
    have hts := take_filter (fun kv : Key × V => f kv.1) hkv
    cases hf : f key with
    | true =>
      refine (if_pos rfl).mpr ⟨kV key, by rw [List.getElem?_set_self hs], he od i key v _ _ hkv hf hG.1 ⟨_, key, rfl, hG.2, szl (by rw [List.length_map]; omega), same_put hG.1 hD, ?_⟩⟩
      rw [upd_same, hts, List.map_append, put_fresh]
      · simp only [hf, if_true]
        rfl
      · intro kv hm
        obtain ⟨y, hy, rfl⟩ := List.mem_map.mp hm
        exact nd_ne nd hkv y (List.mem_filter.mp hy).1
    | false =>
      refine (if_neg Bool.false_ne_true).mpr ⟨hG.1, ?_⟩
      rw [hts]
      simp only [hf, Bool.false_eq_true, if_false, List.append_nil]
      exact hG.2
  refine ⟨fun i m G => m = kvs.length - i ∧ i ≤ kvs.length ∧ Pv i G, ⟨kvs.length, by simp, Nat.zero_le _, same_upd hD, upd_same⟩, ?_⟩
  rintro i m G ⟨rfl, hi, hP⟩
  by_cases hlt : i < kvs.length
  · exact .inr ⟨⟨hP.1 _ _ upd_same, hlt⟩, Pv (i + 1), fun G' p' => ⟨kvs.length - (i + 1), by omega, rfl, hlt, p'⟩, fun x G' y => step i x G G' hlt hP y⟩
  · have ei : i = kvs.length := by omega
    subst ei
    obtain ⟨h1, h2⟩ := hP
    rw [List.take_length] at h2
    refine .inl ⟨⟨h1 _ _ upd_same, Nat.le_refl _⟩, h1 _ _ upd_same, k D _ hD0 (unlock e h1) ?_⟩
    rw [upd_ne nD]
    exact h2
/-! the same within a comprehension -/
section
variable {K : PySem.W.Frag} {X : Cx} {pos : Pos}
theorem pgK_tup {es : List Expr} {k : Nat} {t : TGs} {n : Nat} (hK : X.K = K) (hc : X.calm = true) (h : PGs X es t)
    (hn : (assignEach es X.env).length = n := by rfl) (hst : (assignEach es X.env).findIdx? (·.1) = none := by rfl) : PG X (.Tuple es k pos) (gTup K n t) := by subst hK; exact pg_tup hc h hn hst
theorem opK_in (h : X.K = K) : OpR X (compareOp .In) (rIn K false) := by subst h; exact op_in_seq
theorem opK_notIn (h : X.K = K) : OpR X (compareOp .NotIn) (rIn K true) := by subst h; exact op_notIn_seq
theorem opK_eqD (h : X.K = K) (hu : X.A.units + 64 < cLine) : OpR X (compareOp .Eq) (rEqD K) := by subst h; exact op_eqD hu
theorem opK_neD (h : X.K = K) (hu : X.A.units + 64 < cLine) : OpR X (compareOp .NotEq) (rNeD K) := by subst h; exact op_neD hu
theorem callK_isi (h : X.K = K) : CallR X (.builtin "isinstance") (rIsi K) := by subst h; exact call_isi
theorem slK_tup (h : X.K = K) : SlR X (rSlT K) := by subst h; exact sl_tup
end
end My
local macro_rules | `(tactic| walk_at "go") => `(tactic| try dsimp only [L2.gName, L2.tSeq, L2.tAsg, L2.tNext, L2.tDrop])
namespace My
open PySem PySem.Spec PyProof.Rows L2
def topS (i : Nat) : Stmt := PySem.Challenge.pw_majordomo_k18_proposer_keeps.main.body.getD i (.Pass ⟨0, 0, 0, 0⟩)
abbrev s_majority : Stmt := (topS 1)
theorem sc_majority : FnScope ["count"] ["count"] (defScope s_majority) := ⟨rfl, rfl, rfl, by decide +kernel, rfl, by decide +kernel, by decide +kernel⟩
abbrev s_next_ballot : Stmt := (topS 2)
theorem sc_next_ballot : FnScope ["above", "index", "count", "ballot"] ["above", "index", "count"] (defScope s_next_ballot) := ⟨rfl, rfl, rfl, by decide +kernel, rfl, by decide +kernel, by decide +kernel⟩
abbrev s_value_to_propose : Stmt := (topS 5)
theorem sc_value_to_propose : FnScope ["pairs", "best", "value", "ballot", "accepted"] ["pairs"] (defScope s_value_to_propose) := ⟨rfl, rfl, rfl, by decide +kernel, rfl, by decide +kernel, by decide +kernel⟩
abbrev s_Proposer___init__ : Stmt := (inClass (topS 10) 0)
theorem sc_Proposer___init__ : FnScope ["self", "index", "count"] ["self", "index", "count"] (defScope s_Proposer___init__) := ⟨rfl, rfl, rfl, by decide +kernel, rfl, by decide +kernel, by decide +kernel⟩
abbrev s_Proposer_saw : Stmt := (inClass (topS 10) 1)
theorem sc_Proposer_saw : FnScope ["self", "ballot"] ["self", "ballot"] (defScope s_Proposer_saw) := ⟨rfl, rfl, rfl, by decide +kernel, rfl, by decide +kernel, by decide +kernel⟩
abbrev s_Proposer_begin : Stmt := (inClass (topS 10) 2)
theorem sc_Proposer_begin : FnScope ["self", "first"] ["self", "first"] (defScope s_Proposer_begin) := ⟨rfl, rfl, rfl, by decide +kernel, rfl, by decide +kernel, by decide +kernel⟩
abbrev s_Proposer_hear_promise : Stmt := (inClass (topS 10) 3)
theorem sc_Proposer_hear_promise : FnScope ["self", "index", "ballot", "base", "rows"] ["self", "index", "ballot", "base", "rows"] (defScope s_Proposer_hear_promise) := ⟨rfl, rfl, rfl, by decide +kernel, rfl, by decide +kernel, by decide +kernel⟩
abbrev s_Proposer__open_accepted : Stmt := (inClass (topS 10) 4)
theorem sc_Proposer__open_accepted : FnScope ["self", "pairs", "last"] ["self"] (defScope s_Proposer__open_accepted) := ⟨rfl, rfl, rfl, by decide +kernel, rfl, by decide +kernel, by decide +kernel⟩
abbrev s_Proposer__promised_pairs : Stmt := (inClass (topS 10) 5)
theorem sc_Proposer__promised_pairs : FnScope ["self", "pairs", "index", "slot", "ballot", "value"] ["self"] (defScope s_Proposer__promised_pairs) := ⟨rfl, rfl, rfl, by decide +kernel, rfl, by decide +kernel, by decide +kernel⟩
abbrev s_Proposer_propose : Stmt := (inClass (topS 10) 6)
theorem sc_Proposer_propose : FnScope ["self", "value", "slot"] ["self", "value"] (defScope s_Proposer_propose) := ⟨rfl, rfl, rfl, by decide +kernel, rfl, by decide +kernel, by decide +kernel⟩
abbrev s_Proposer_hear_accepted : Stmt := (inClass (topS 10) 7)
theorem sc_Proposer_hear_accepted : FnScope ["self", "index", "ballot", "slot"] ["self", "index", "ballot", "slot"] (defScope s_Proposer_hear_accepted) := ⟨rfl, rfl, rfl, by decide +kernel, rfl, by decide +kernel, by decide +kernel⟩
abbrev s_Proposer_open_proposals : Stmt := (inClass (topS 10) 8)
theorem sc_Proposer_open_proposals : FnScope ["self", "slot"] ["self"] (defScope s_Proposer_open_proposals) := ⟨rfl, rfl, rfl, by decide +kernel, rfl, by decide +kernel, by decide +kernel⟩
abbrev s_Proposer_stop : Stmt := (inClass (topS 10) 9)
theorem sc_Proposer_stop : FnScope ["self"] ["self"] (defScope s_Proposer_stop) := ⟨rfl, rfl, rfl, by decide +kernel, rfl, by decide +kernel, by decide +kernel⟩
abbrev s_Proposer__forget_proposals : Stmt := (inClass (topS 10) 10)
theorem sc_Proposer__forget_proposals : FnScope ["self"] ["self"] (defScope s_Proposer__forget_proposals) := ⟨rfl, rfl, rfl, by decide +kernel, rfl, by decide +kernel, by decide +kernel⟩
abbrev s__law_draws : Stmt := (topS 12)
theorem sc__law_draws : FnScope ["script", "draws", "k", "cell", "turn", "mixed"] ["script"] (defScope s__law_draws) := ⟨rfl, rfl, rfl, by decide +kernel, rfl, by decide +kernel, by decide +kernel⟩
abbrev s__law_value : Stmt := (topS 13)
theorem sc__law_value : FnScope ["promises", "slot", "best", "value", "promise", "row"] ["promises", "slot"] (defScope s__law_value) := ⟨rfl, rfl, rfl, by decide +kernel, rfl, by decide +kernel, by decide +kernel⟩
abbrev s__law_promise : Stmt := (topS 14)
theorem sc__law_promise : FnScope ["model", "index", "ballot", "base", "rows", "last", "promise", "row", "opened", "slot", "one"] ["model", "index", "ballot", "base", "rows"] (defScope s__law_promise) := ⟨rfl, rfl, rfl, by decide +kernel, rfl, by decide +kernel, by decide +kernel⟩
abbrev s__law_accepted : Stmt := (topS 15)
theorem sc__law_accepted : FnScope ["model", "index", "ballot", "slot", "one", "other"] ["model", "index", "ballot", "slot"] (defScope s__law_accepted) := ⟨rfl, rfl, rfl, by decide +kernel, rfl, by decide +kernel, by decide +kernel⟩
abbrev s__law_begin : Stmt := (topS 16)
theorem sc__law_begin : FnScope ["model", "first", "ballot", "turn"] ["model", "first"] (defScope s__law_begin) := ⟨rfl, rfl, rfl, by decide +kernel, rfl, by decide +kernel, by decide +kernel⟩
abbrev s__law_saw : Stmt := (topS 17)
theorem sc__law_saw : FnScope ["model", "ballot"] ["model", "ballot"] (defScope s__law_saw) := ⟨rfl, rfl, rfl, by decide +kernel, rfl, by decide +kernel, by decide +kernel⟩
abbrev s__law_other : Stmt := (topS 18)
theorem sc__law_other : FnScope ["proposer", "model", "kind", "slot", "due", "actual"] ["proposer", "model", "kind", "slot"] (defScope s__law_other) := ⟨rfl, rfl, rfl, by decide +kernel, rfl, by decide +kernel, by decide +kernel⟩
abbrev s__law_deed : Stmt := (topS 19)
theorem sc__law_deed : FnScope ["proposer", "model", "one", "other", "third", "ballot", "index", "kind", "told", "actual", "rows", "k", "passed", "base", "slot"] ["proposer", "model", "one", "other", "third"] (defScope s__law_deed) := ⟨rfl, rfl, rfl, by decide +kernel, rfl, by decide +kernel, by decide +kernel⟩
abbrev s_law : Stmt := (topS 20)
theorem sc_law : FnScope ["script", "draws", "count", "index", "proposer", "model", "k", "one"] ["script"] (defScope s_law) := ⟨rfl, rfl, rfl, by decide +kernel, rfl, by decide +kernel, by decide +kernel⟩

structure TX (K : PySem.W.Frag) (mg : Str → Option Value) where
  a_Proposer : Addr
  a_majority : Addr
  d_majority : FuncData
  F_majority : Fun K "majority" "majority" s_majority a_majority d_majority
  b_majority : Binds K d_majority ["count"] []
  g_majority : mg "majority" = some (.ref a_majority)
  a_next_ballot : Addr
  d_next_ballot : FuncData
  F_next_ballot : Fun K "next_ballot" "next_ballot" s_next_ballot a_next_ballot d_next_ballot
  b_next_ballot : Binds K d_next_ballot ["above", "index", "count"] []
  g_next_ballot : mg "next_ballot" = some (.ref a_next_ballot)
  a_value_to_propose : Addr
  d_value_to_propose : FuncData
  F_value_to_propose : Fun K "value_to_propose" "value_to_propose" s_value_to_propose a_value_to_propose d_value_to_propose
  b_value_to_propose : Binds K d_value_to_propose ["pairs"] []
  g_value_to_propose : mg "value_to_propose" = some (.ref a_value_to_propose)
  a_Proposer___init__ : Addr
  d_Proposer___init__ : FuncData
  F_Proposer___init__ : Fun K "__init__" "Proposer.__init__" s_Proposer___init__ a_Proposer___init__ d_Proposer___init__
  b_Proposer___init__ : Binds K d_Proposer___init__ ["self", "index", "count"] []
  a_Proposer_saw : Addr
  d_Proposer_saw : FuncData
  F_Proposer_saw : Fun K "saw" "Proposer.saw" s_Proposer_saw a_Proposer_saw d_Proposer_saw
  b_Proposer_saw : Binds K d_Proposer_saw ["self", "ballot"] []
  m_Proposer_saw : Meth K a_Proposer "saw" a_Proposer_saw
  a_Proposer_begin : Addr
  d_Proposer_begin : FuncData
  F_Proposer_begin : Fun K "begin" "Proposer.begin" s_Proposer_begin a_Proposer_begin d_Proposer_begin
  b_Proposer_begin : Binds K d_Proposer_begin ["self", "first"] []
  m_Proposer_begin : Meth K a_Proposer "begin" a_Proposer_begin
  a_Proposer_hear_promise : Addr
  d_Proposer_hear_promise : FuncData
  F_Proposer_hear_promise : Fun K "hear_promise" "Proposer.hear_promise" s_Proposer_hear_promise a_Proposer_hear_promise d_Proposer_hear_promise
  b_Proposer_hear_promise : Binds K d_Proposer_hear_promise ["self", "index", "ballot", "base", "rows"] []
  m_Proposer_hear_promise : Meth K a_Proposer "hear_promise" a_Proposer_hear_promise
  a_Proposer__open_accepted : Addr
  d_Proposer__open_accepted : FuncData
  F_Proposer__open_accepted : Fun K "_open_accepted" "Proposer._open_accepted" s_Proposer__open_accepted a_Proposer__open_accepted d_Proposer__open_accepted
  b_Proposer__open_accepted : Binds K d_Proposer__open_accepted ["self"] []
  m_Proposer__open_accepted : Meth K a_Proposer "_open_accepted" a_Proposer__open_accepted
  a_Proposer__promised_pairs : Addr
  d_Proposer__promised_pairs : FuncData
  F_Proposer__promised_pairs : Fun K "_promised_pairs" "Proposer._promised_pairs" s_Proposer__promised_pairs a_Proposer__promised_pairs d_Proposer__promised_pairs
  b_Proposer__promised_pairs : Binds K d_Proposer__promised_pairs ["self"] []
  m_Proposer__promised_pairs : Meth K a_Proposer "_promised_pairs" a_Proposer__promised_pairs
  a_Proposer_propose : Addr
  d_Proposer_propose : FuncData
  F_Proposer_propose : Fun K "propose" "Proposer.propose" s_Proposer_propose a_Proposer_propose d_Proposer_propose
  b_Proposer_propose : Binds K d_Proposer_propose ["self", "value"] []
  m_Proposer_propose : Meth K a_Proposer "propose" a_Proposer_propose
  a_Proposer_hear_accepted : Addr
  d_Proposer_hear_accepted : FuncData
  F_Proposer_hear_accepted : Fun K "hear_accepted" "Proposer.hear_accepted" s_Proposer_hear_accepted a_Proposer_hear_accepted d_Proposer_hear_accepted
  b_Proposer_hear_accepted : Binds K d_Proposer_hear_accepted ["self", "index", "ballot", "slot"] []
  m_Proposer_hear_accepted : Meth K a_Proposer "hear_accepted" a_Proposer_hear_accepted
  a_Proposer_open_proposals : Addr
  d_Proposer_open_proposals : FuncData
  F_Proposer_open_proposals : Fun K "open_proposals" "Proposer.open_proposals" s_Proposer_open_proposals a_Proposer_open_proposals d_Proposer_open_proposals
  b_Proposer_open_proposals : Binds K d_Proposer_open_proposals ["self"] []
  m_Proposer_open_proposals : Meth K a_Proposer "open_proposals" a_Proposer_open_proposals
  a_Proposer_stop : Addr
  d_Proposer_stop : FuncData
  F_Proposer_stop : Fun K "stop" "Proposer.stop" s_Proposer_stop a_Proposer_stop d_Proposer_stop
  b_Proposer_stop : Binds K d_Proposer_stop ["self"] []
  m_Proposer_stop : Meth K a_Proposer "stop" a_Proposer_stop
  a_Proposer__forget_proposals : Addr
  d_Proposer__forget_proposals : FuncData
  F_Proposer__forget_proposals : Fun K "_forget_proposals" "Proposer._forget_proposals" s_Proposer__forget_proposals a_Proposer__forget_proposals d_Proposer__forget_proposals
  b_Proposer__forget_proposals : Binds K d_Proposer__forget_proposals ["self"] []
  m_Proposer__forget_proposals : Meth K a_Proposer "_forget_proposals" a_Proposer__forget_proposals
  a__law_draws : Addr
  d__law_draws : FuncData
  F__law_draws : Fun K "_law_draws" "_law_draws" s__law_draws a__law_draws d__law_draws
  b__law_draws : Binds K d__law_draws ["script"] []
  g__law_draws : mg "_law_draws" = some (.ref a__law_draws)
  a__law_value : Addr
  d__law_value : FuncData
  F__law_value : Fun K "_law_value" "_law_value" s__law_value a__law_value d__law_value
  b__law_value : Binds K d__law_value ["promises", "slot"] []
  g__law_value : mg "_law_value" = some (.ref a__law_value)
  a__law_promise : Addr
  d__law_promise : FuncData
  F__law_promise : Fun K "_law_promise" "_law_promise" s__law_promise a__law_promise d__law_promise
  b__law_promise : Binds K d__law_promise ["model", "index", "ballot", "base", "rows"] []
  g__law_promise : mg "_law_promise" = some (.ref a__law_promise)
  a__law_accepted : Addr
  d__law_accepted : FuncData
  F__law_accepted : Fun K "_law_accepted" "_law_accepted" s__law_accepted a__law_accepted d__law_accepted
  b__law_accepted : Binds K d__law_accepted ["model", "index", "ballot", "slot"] []
  g__law_accepted : mg "_law_accepted" = some (.ref a__law_accepted)
  a__law_begin : Addr
  d__law_begin : FuncData
  F__law_begin : Fun K "_law_begin" "_law_begin" s__law_begin a__law_begin d__law_begin
  b__law_begin : Binds K d__law_begin ["model", "first"] []
  g__law_begin : mg "_law_begin" = some (.ref a__law_begin)
  a__law_saw : Addr
  d__law_saw : FuncData
  F__law_saw : Fun K "_law_saw" "_law_saw" s__law_saw a__law_saw d__law_saw
  b__law_saw : Binds K d__law_saw ["model", "ballot"] []
  g__law_saw : mg "_law_saw" = some (.ref a__law_saw)
  a__law_other : Addr
  d__law_other : FuncData
  F__law_other : Fun K "_law_other" "_law_other" s__law_other a__law_other d__law_other
  b__law_other : Binds K d__law_other ["proposer", "model", "kind", "slot"] []
  g__law_other : mg "_law_other" = some (.ref a__law_other)
  a__law_deed : Addr
  d__law_deed : FuncData
  F__law_deed : Fun K "_law_deed" "_law_deed" s__law_deed a__law_deed d__law_deed
  b__law_deed : Binds K d__law_deed ["proposer", "model", "one", "other", "third"] []
  g__law_deed : mg "_law_deed" = some (.ref a__law_deed)
  a_law : Addr
  d_law : FuncData
  F_law : Fun K "law" "law" s_law a_law d_law
  b_law : Binds K d_law ["script"] []
  g_law : mg "law" = some (.ref a_law)
  K_Proposer : Cls K a_Proposer
  g_Proposer : mg "Proposer" = some (.ref a_Proposer)
  M_Proposer : Mk K a_Proposer a_Proposer___init__
  na_Proposer_ballot : NoAttr K a_Proposer "ballot"
  na_Proposer_state : NoAttr K a_Proposer "state"
  na_Proposer__index : NoAttr K a_Proposer "_index"
  na_Proposer__count : NoAttr K a_Proposer "_count"
  na_Proposer__seen : NoAttr K a_Proposer "_seen"
  na_Proposer__next_slot : NoAttr K a_Proposer "_next_slot"
  na_Proposer__promises : NoAttr K a_Proposer "_promises"
  na_Proposer__proposals : NoAttr K a_Proposer "_proposals"
  na_Proposer__voters : NoAttr K a_Proposer "_voters"
  ca_NOTHING : Addr
  c_NOTHING : mg "NOTHING" = some (.ref ca_NOTHING)
  q_NOTHING : ∀ H, SqT K H ca_NOTHING [(.str "nothing")]
  t_IDLE : Tok
  c_IDLE : mg "IDLE" = some (.str "idle" t_IDLE)
  t_PREPARING : Tok
  c_PREPARING : mg "PREPARING" = some (.str "preparing" t_PREPARING)
  t_LEADING : Tok
  c_LEADING : mg "LEADING" = some (.str "leading" t_LEADING)
  n_max : mg "max" = none
  n_sorted : mg "sorted" = none
  n_tuple : mg "tuple" = none
  n_len : mg "len" = none
  n_range : mg "range" = none
  n_min : mg "min" = none
  n_abs : mg "abs" = none
  n_int : mg "int" = none
  n_isinstance : mg "isinstance" = none
  n_bool : mg "bool" = none
  n_list : mg "list" = none

theorem ne_Proposer_ballot_state : (Str.ofString "ballot" == Str.ofString "state") = false := by decide +kernel
theorem ne_Proposer_ballot_state_p : ¬ (Str.ofString "ballot" = Str.ofString "state") := by decide +kernel
theorem ne_Proposer_ballot__index : (Str.ofString "ballot" == Str.ofString "_index") = false := by decide +kernel
theorem ne_Proposer_ballot__index_p : ¬ (Str.ofString "ballot" = Str.ofString "_index") := by decide +kernel
theorem ne_Proposer_ballot__count : (Str.ofString "ballot" == Str.ofString "_count") = false := by decide +kernel
theorem ne_Proposer_ballot__count_p : ¬ (Str.ofString "ballot" = Str.ofString "_count") := by decide +kernel
theorem ne_Proposer_ballot__seen : (Str.ofString "ballot" == Str.ofString "_seen") = false := by decide +kernel
theorem ne_Proposer_ballot__seen_p : ¬ (Str.ofString "ballot" = Str.ofString "_seen") := by decide +kernel
theorem ne_Proposer_ballot__next_slot : (Str.ofString "ballot" == Str.ofString "_next_slot") = false := by decide +kernel
theorem ne_Proposer_ballot__next_slot_p : ¬ (Str.ofString "ballot" = Str.ofString "_next_slot") := by decide +kernel
theorem ne_Proposer_ballot__promises : (Str.ofString "ballot" == Str.ofString "_promises") = false := by decide +kernel
theorem ne_Proposer_ballot__promises_p : ¬ (Str.ofString "ballot" = Str.ofString "_promises") := by decide +kernel
theorem ne_Proposer_ballot__proposals : (Str.ofString "ballot" == Str.ofString "_proposals") = false := by decide +kernel
theorem ne_Proposer_ballot__proposals_p : ¬ (Str.ofString "ballot" = Str.ofString "_proposals") := by decide +kernel
theorem ne_Proposer_ballot__voters : (Str.ofString "ballot" == Str.ofString "_voters") = false := by decide +kernel
theorem ne_Proposer_ballot__voters_p : ¬ (Str.ofString "ballot" = Str.ofString "_voters") := by decide +kernel
theorem ne_Proposer_state_ballot : (Str.ofString "state" == Str.ofString "ballot") = false := by decide +kernel
theorem ne_Proposer_state_ballot_p : ¬ (Str.ofString "state" = Str.ofString "ballot") := by decide +kernel
theorem ne_Proposer_state__index : (Str.ofString "state" == Str.ofString "_index") = false := by decide +kernel
theorem ne_Proposer_state__index_p : ¬ (Str.ofString "state" = Str.ofString "_index") := by decide +kernel
theorem ne_Proposer_state__count : (Str.ofString "state" == Str.ofString "_count") = false := by decide +kernel
theorem ne_Proposer_state__count_p : ¬ (Str.ofString "state" = Str.ofString "_count") := by decide +kernel
theorem ne_Proposer_state__seen : (Str.ofString "state" == Str.ofString "_seen") = false := by decide +kernel
theorem ne_Proposer_state__seen_p : ¬ (Str.ofString "state" = Str.ofString "_seen") := by decide +kernel
theorem ne_Proposer_state__next_slot : (Str.ofString "state" == Str.ofString "_next_slot") = false := by decide +kernel
theorem ne_Proposer_state__next_slot_p : ¬ (Str.ofString "state" = Str.ofString "_next_slot") := by decide +kernel
theorem ne_Proposer_state__promises : (Str.ofString "state" == Str.ofString "_promises") = false := by decide +kernel
theorem ne_Proposer_state__promises_p : ¬ (Str.ofString "state" = Str.ofString "_promises") := by decide +kernel
theorem ne_Proposer_state__proposals : (Str.ofString "state" == Str.ofString "_proposals") = false := by decide +kernel
theorem ne_Proposer_state__proposals_p : ¬ (Str.ofString "state" = Str.ofString "_proposals") := by decide +kernel
theorem ne_Proposer_state__voters : (Str.ofString "state" == Str.ofString "_voters") = false := by decide +kernel
theorem ne_Proposer_state__voters_p : ¬ (Str.ofString "state" = Str.ofString "_voters") := by decide +kernel
theorem ne_Proposer__index_ballot : (Str.ofString "_index" == Str.ofString "ballot") = false := by decide +kernel
theorem ne_Proposer__index_ballot_p : ¬ (Str.ofString "_index" = Str.ofString "ballot") := by decide +kernel
theorem ne_Proposer__index_state : (Str.ofString "_index" == Str.ofString "state") = false := by decide +kernel
theorem ne_Proposer__index_state_p : ¬ (Str.ofString "_index" = Str.ofString "state") := by decide +kernel
theorem ne_Proposer__index__count : (Str.ofString "_index" == Str.ofString "_count") = false := by decide +kernel
theorem ne_Proposer__index__count_p : ¬ (Str.ofString "_index" = Str.ofString "_count") := by decide +kernel
theorem ne_Proposer__index__seen : (Str.ofString "_index" == Str.ofString "_seen") = false := by decide +kernel
theorem ne_Proposer__index__seen_p : ¬ (Str.ofString "_index" = Str.ofString "_seen") := by decide +kernel
theorem ne_Proposer__index__next_slot : (Str.ofString "_index" == Str.ofString "_next_slot") = false := by decide +kernel
theorem ne_Proposer__index__next_slot_p : ¬ (Str.ofString "_index" = Str.ofString "_next_slot") := by decide +kernel
theorem ne_Proposer__index__promises : (Str.ofString "_index" == Str.ofString "_promises") = false := by decide +kernel
theorem ne_Proposer__index__promises_p : ¬ (Str.ofString "_index" = Str.ofString "_promises") := by decide +kernel
theorem ne_Proposer__index__proposals : (Str.ofString "_index" == Str.ofString "_proposals") = false := by decide +kernel
theorem ne_Proposer__index__proposals_p : ¬ (Str.ofString "_index" = Str.ofString "_proposals") := by decide +kernel
theorem ne_Proposer__index__voters : (Str.ofString "_index" == Str.ofString "_voters") = false := by decide +kernel
theorem ne_Proposer__index__voters_p : ¬ (Str.ofString "_index" = Str.ofString "_voters") := by decide +kernel
theorem ne_Proposer__count_ballot : (Str.ofString "_count" == Str.ofString "ballot") = false := by decide +kernel
theorem ne_Proposer__count_ballot_p : ¬ (Str.ofString "_count" = Str.ofString "ballot") := by decide +kernel
theorem ne_Proposer__count_state : (Str.ofString "_count" == Str.ofString "state") = false := by decide +kernel
theorem ne_Proposer__count_state_p : ¬ (Str.ofString "_count" = Str.ofString "state") := by decide +kernel
theorem ne_Proposer__count__index : (Str.ofString "_count" == Str.ofString "_index") = false := by decide +kernel
theorem ne_Proposer__count__index_p : ¬ (Str.ofString "_count" = Str.ofString "_index") := by decide +kernel
theorem ne_Proposer__count__seen : (Str.ofString "_count" == Str.ofString "_seen") = false := by decide +kernel
theorem ne_Proposer__count__seen_p : ¬ (Str.ofString "_count" = Str.ofString "_seen") := by decide +kernel
theorem ne_Proposer__count__next_slot : (Str.ofString "_count" == Str.ofString "_next_slot") = false := by decide +kernel
theorem ne_Proposer__count__next_slot_p : ¬ (Str.ofString "_count" = Str.ofString "_next_slot") := by decide +kernel
theorem ne_Proposer__count__promises : (Str.ofString "_count" == Str.ofString "_promises") = false := by decide +kernel
theorem ne_Proposer__count__promises_p : ¬ (Str.ofString "_count" = Str.ofString "_promises") := by decide +kernel
theorem ne_Proposer__count__proposals : (Str.ofString "_count" == Str.ofString "_proposals") = false := by decide +kernel
theorem ne_Proposer__count__proposals_p : ¬ (Str.ofString "_count" = Str.ofString "_proposals") := by decide +kernel
theorem ne_Proposer__count__voters : (Str.ofString "_count" == Str.ofString "_voters") = false := by decide +kernel
theorem ne_Proposer__count__voters_p : ¬ (Str.ofString "_count" = Str.ofString "_voters") := by decide +kernel
theorem ne_Proposer__seen_ballot : (Str.ofString "_seen" == Str.ofString "ballot") = false := by decide +kernel
theorem ne_Proposer__seen_ballot_p : ¬ (Str.ofString "_seen" = Str.ofString "ballot") := by decide +kernel
theorem ne_Proposer__seen_state : (Str.ofString "_seen" == Str.ofString "state") = false := by decide +kernel
theorem ne_Proposer__seen_state_p : ¬ (Str.ofString "_seen" = Str.ofString "state") := by decide +kernel
theorem ne_Proposer__seen__index : (Str.ofString "_seen" == Str.ofString "_index") = false := by decide +kernel
theorem ne_Proposer__seen__index_p : ¬ (Str.ofString "_seen" = Str.ofString "_index") := by decide +kernel
theorem ne_Proposer__seen__count : (Str.ofString "_seen" == Str.ofString "_count") = false := by decide +kernel
theorem ne_Proposer__seen__count_p : ¬ (Str.ofString "_seen" = Str.ofString "_count") := by decide +kernel
theorem ne_Proposer__seen__next_slot : (Str.ofString "_seen" == Str.ofString "_next_slot") = false := by decide +kernel
theorem ne_Proposer__seen__next_slot_p : ¬ (Str.ofString "_seen" = Str.ofString "_next_slot") := by decide +kernel
theorem ne_Proposer__seen__promises : (Str.ofString "_seen" == Str.ofString "_promises") = false := by decide +kernel
theorem ne_Proposer__seen__promises_p : ¬ (Str.ofString "_seen" = Str.ofString "_promises") := by decide +kernel
theorem ne_Proposer__seen__proposals : (Str.ofString "_seen" == Str.ofString "_proposals") = false := by decide +kernel
theorem ne_Proposer__seen__proposals_p : ¬ (Str.ofString "_seen" = Str.ofString "_proposals") := by decide +kernel
theorem ne_Proposer__seen__voters : (Str.ofString "_seen" == Str.ofString "_voters") = false := by decide +kernel
theorem ne_Proposer__seen__voters_p : ¬ (Str.ofString "_seen" = Str.ofString "_voters") := by decide +kernel
theorem ne_Proposer__next_slot_ballot : (Str.ofString "_next_slot" == Str.ofString "ballot") = false := by decide +kernel
theorem ne_Proposer__next_slot_ballot_p : ¬ (Str.ofString "_next_slot" = Str.ofString "ballot") := by decide +kernel
theorem ne_Proposer__next_slot_state : (Str.ofString "_next_slot" == Str.ofString "state") = false := by decide +kernel
theorem ne_Proposer__next_slot_state_p : ¬ (Str.ofString "_next_slot" = Str.ofString "state") := by decide +kernel
theorem ne_Proposer__next_slot__index : (Str.ofString "_next_slot" == Str.ofString "_index") = false := by decide +kernel
theorem ne_Proposer__next_slot__index_p : ¬ (Str.ofString "_next_slot" = Str.ofString "_index") := by decide +kernel
theorem ne_Proposer__next_slot__count : (Str.ofString "_next_slot" == Str.ofString "_count") = false := by decide +kernel
theorem ne_Proposer__next_slot__count_p : ¬ (Str.ofString "_next_slot" = Str.ofString "_count") := by decide +kernel
theorem ne_Proposer__next_slot__seen : (Str.ofString "_next_slot" == Str.ofString "_seen") = false := by decide +kernel
theorem ne_Proposer__next_slot__seen_p : ¬ (Str.ofString "_next_slot" = Str.ofString "_seen") := by decide +kernel
theorem ne_Proposer__next_slot__promises : (Str.ofString "_next_slot" == Str.ofString "_promises") = false := by decide +kernel
theorem ne_Proposer__next_slot__promises_p : ¬ (Str.ofString "_next_slot" = Str.ofString "_promises") := by decide +kernel
theorem ne_Proposer__next_slot__proposals : (Str.ofString "_next_slot" == Str.ofString "_proposals") = false := by decide +kernel
theorem ne_Proposer__next_slot__proposals_p : ¬ (Str.ofString "_next_slot" = Str.ofString "_proposals") := by decide +kernel
theorem ne_Proposer__next_slot__voters : (Str.ofString "_next_slot" == Str.ofString "_voters") = false := by decide +kernel
theorem ne_Proposer__next_slot__voters_p : ¬ (Str.ofString "_next_slot" = Str.ofString "_voters") := by decide +kernel
theorem ne_Proposer__promises_ballot : (Str.ofString "_promises" == Str.ofString "ballot") = false := by decide +kernel
theorem ne_Proposer__promises_ballot_p : ¬ (Str.ofString "_promises" = Str.ofString "ballot") := by decide +kernel
theorem ne_Proposer__promises_state : (Str.ofString "_promises" == Str.ofString "state") = false := by decide +kernel
theorem ne_Proposer__promises_state_p : ¬ (Str.ofString "_promises" = Str.ofString "state") := by decide +kernel
theorem ne_Proposer__promises__index : (Str.ofString "_promises" == Str.ofString "_index") = false := by decide +kernel
theorem ne_Proposer__promises__index_p : ¬ (Str.ofString "_promises" = Str.ofString "_index") := by decide +kernel
theorem ne_Proposer__promises__count : (Str.ofString "_promises" == Str.ofString "_count") = false := by decide +kernel
theorem ne_Proposer__promises__count_p : ¬ (Str.ofString "_promises" = Str.ofString "_count") := by decide +kernel
theorem ne_Proposer__promises__seen : (Str.ofString "_promises" == Str.ofString "_seen") = false := by decide +kernel
theorem ne_Proposer__promises__seen_p : ¬ (Str.ofString "_promises" = Str.ofString "_seen") := by decide +kernel
theorem ne_Proposer__promises__next_slot : (Str.ofString "_promises" == Str.ofString "_next_slot") = false := by decide +kernel
theorem ne_Proposer__promises__next_slot_p : ¬ (Str.ofString "_promises" = Str.ofString "_next_slot") := by decide +kernel
theorem ne_Proposer__promises__proposals : (Str.ofString "_promises" == Str.ofString "_proposals") = false := by decide +kernel
theorem ne_Proposer__promises__proposals_p : ¬ (Str.ofString "_promises" = Str.ofString "_proposals") := by decide +kernel
theorem ne_Proposer__promises__voters : (Str.ofString "_promises" == Str.ofString "_voters") = false := by decide +kernel
theorem ne_Proposer__promises__voters_p : ¬ (Str.ofString "_promises" = Str.ofString "_voters") := by decide +kernel
theorem ne_Proposer__proposals_ballot : (Str.ofString "_proposals" == Str.ofString "ballot") = false := by decide +kernel
theorem ne_Proposer__proposals_ballot_p : ¬ (Str.ofString "_proposals" = Str.ofString "ballot") := by decide +kernel
theorem ne_Proposer__proposals_state : (Str.ofString "_proposals" == Str.ofString "state") = false := by decide +kernel
theorem ne_Proposer__proposals_state_p : ¬ (Str.ofString "_proposals" = Str.ofString "state") := by decide +kernel
theorem ne_Proposer__proposals__index : (Str.ofString "_proposals" == Str.ofString "_index") = false := by decide +kernel
theorem ne_Proposer__proposals__index_p : ¬ (Str.ofString "_proposals" = Str.ofString "_index") := by decide +kernel
theorem ne_Proposer__proposals__count : (Str.ofString "_proposals" == Str.ofString "_count") = false := by decide +kernel
theorem ne_Proposer__proposals__count_p : ¬ (Str.ofString "_proposals" = Str.ofString "_count") := by decide +kernel
theorem ne_Proposer__proposals__seen : (Str.ofString "_proposals" == Str.ofString "_seen") = false := by decide +kernel
theorem ne_Proposer__proposals__seen_p : ¬ (Str.ofString "_proposals" = Str.ofString "_seen") := by decide +kernel
theorem ne_Proposer__proposals__next_slot : (Str.ofString "_proposals" == Str.ofString "_next_slot") = false := by decide +kernel
theorem ne_Proposer__proposals__next_slot_p : ¬ (Str.ofString "_proposals" = Str.ofString "_next_slot") := by decide +kernel
theorem ne_Proposer__proposals__promises : (Str.ofString "_proposals" == Str.ofString "_promises") = false := by decide +kernel
theorem ne_Proposer__proposals__promises_p : ¬ (Str.ofString "_proposals" = Str.ofString "_promises") := by decide +kernel
theorem ne_Proposer__proposals__voters : (Str.ofString "_proposals" == Str.ofString "_voters") = false := by decide +kernel
theorem ne_Proposer__proposals__voters_p : ¬ (Str.ofString "_proposals" = Str.ofString "_voters") := by decide +kernel
theorem ne_Proposer__voters_ballot : (Str.ofString "_voters" == Str.ofString "ballot") = false := by decide +kernel
theorem ne_Proposer__voters_ballot_p : ¬ (Str.ofString "_voters" = Str.ofString "ballot") := by decide +kernel
theorem ne_Proposer__voters_state : (Str.ofString "_voters" == Str.ofString "state") = false := by decide +kernel
theorem ne_Proposer__voters_state_p : ¬ (Str.ofString "_voters" = Str.ofString "state") := by decide +kernel
theorem ne_Proposer__voters__index : (Str.ofString "_voters" == Str.ofString "_index") = false := by decide +kernel
theorem ne_Proposer__voters__index_p : ¬ (Str.ofString "_voters" = Str.ofString "_index") := by decide +kernel
theorem ne_Proposer__voters__count : (Str.ofString "_voters" == Str.ofString "_count") = false := by decide +kernel
theorem ne_Proposer__voters__count_p : ¬ (Str.ofString "_voters" = Str.ofString "_count") := by decide +kernel
theorem ne_Proposer__voters__seen : (Str.ofString "_voters" == Str.ofString "_seen") = false := by decide +kernel
theorem ne_Proposer__voters__seen_p : ¬ (Str.ofString "_voters" = Str.ofString "_seen") := by decide +kernel
theorem ne_Proposer__voters__next_slot : (Str.ofString "_voters" == Str.ofString "_next_slot") = false := by decide +kernel
theorem ne_Proposer__voters__next_slot_p : ¬ (Str.ofString "_voters" = Str.ofString "_next_slot") := by decide +kernel
theorem ne_Proposer__voters__promises : (Str.ofString "_voters" == Str.ofString "_promises") = false := by decide +kernel
theorem ne_Proposer__voters__promises_p : ¬ (Str.ofString "_voters" = Str.ofString "_promises") := by decide +kernel
theorem ne_Proposer__voters__proposals : (Str.ofString "_voters" == Str.ofString "_proposals") = false := by decide +kernel
theorem ne_Proposer__voters__proposals_p : ¬ (Str.ofString "_voters" = Str.ofString "_proposals") := by decide +kernel
theorem ne_Proposer_saw_ballot : (Str.ofString "saw" == Str.ofString "ballot") = false := by decide +kernel
theorem ne_Proposer_saw_ballot_p : ¬ (Str.ofString "saw" = Str.ofString "ballot") := by decide +kernel
theorem ne_Proposer_saw_state : (Str.ofString "saw" == Str.ofString "state") = false := by decide +kernel
theorem ne_Proposer_saw_state_p : ¬ (Str.ofString "saw" = Str.ofString "state") := by decide +kernel
theorem ne_Proposer_saw__index : (Str.ofString "saw" == Str.ofString "_index") = false := by decide +kernel
theorem ne_Proposer_saw__index_p : ¬ (Str.ofString "saw" = Str.ofString "_index") := by decide +kernel
theorem ne_Proposer_saw__count : (Str.ofString "saw" == Str.ofString "_count") = false := by decide +kernel
theorem ne_Proposer_saw__count_p : ¬ (Str.ofString "saw" = Str.ofString "_count") := by decide +kernel
theorem ne_Proposer_saw__seen : (Str.ofString "saw" == Str.ofString "_seen") = false := by decide +kernel
theorem ne_Proposer_saw__seen_p : ¬ (Str.ofString "saw" = Str.ofString "_seen") := by decide +kernel
theorem ne_Proposer_saw__next_slot : (Str.ofString "saw" == Str.ofString "_next_slot") = false := by decide +kernel
theorem ne_Proposer_saw__next_slot_p : ¬ (Str.ofString "saw" = Str.ofString "_next_slot") := by decide +kernel
theorem ne_Proposer_saw__promises : (Str.ofString "saw" == Str.ofString "_promises") = false := by decide +kernel
theorem ne_Proposer_saw__promises_p : ¬ (Str.ofString "saw" = Str.ofString "_promises") := by decide +kernel
theorem ne_Proposer_saw__proposals : (Str.ofString "saw" == Str.ofString "_proposals") = false := by decide +kernel
theorem ne_Proposer_saw__proposals_p : ¬ (Str.ofString "saw" = Str.ofString "_proposals") := by decide +kernel
theorem ne_Proposer_saw__voters : (Str.ofString "saw" == Str.ofString "_voters") = false := by decide +kernel
theorem ne_Proposer_saw__voters_p : ¬ (Str.ofString "saw" = Str.ofString "_voters") := by decide +kernel
theorem ne_Proposer_begin_ballot : (Str.ofString "begin" == Str.ofString "ballot") = false := by decide +kernel
theorem ne_Proposer_begin_ballot_p : ¬ (Str.ofString "begin" = Str.ofString "ballot") := by decide +kernel
theorem ne_Proposer_begin_state : (Str.ofString "begin" == Str.ofString "state") = false := by decide +kernel
theorem ne_Proposer_begin_state_p : ¬ (Str.ofString "begin" = Str.ofString "state") := by decide +kernel
theorem ne_Proposer_begin__index : (Str.ofString "begin" == Str.ofString "_index") = false := by decide +kernel
theorem ne_Proposer_begin__index_p : ¬ (Str.ofString "begin" = Str.ofString "_index") := by decide +kernel
theorem ne_Proposer_begin__count : (Str.ofString "begin" == Str.ofString "_count") = false := by decide +kernel
theorem ne_Proposer_begin__count_p : ¬ (Str.ofString "begin" = Str.ofString "_count") := by decide +kernel
theorem ne_Proposer_begin__seen : (Str.ofString "begin" == Str.ofString "_seen") = false := by decide +kernel
theorem ne_Proposer_begin__seen_p : ¬ (Str.ofString "begin" = Str.ofString "_seen") := by decide +kernel
theorem ne_Proposer_begin__next_slot : (Str.ofString "begin" == Str.ofString "_next_slot") = false := by decide +kernel
theorem ne_Proposer_begin__next_slot_p : ¬ (Str.ofString "begin" = Str.ofString "_next_slot") := by decide +kernel
theorem ne_Proposer_begin__promises : (Str.ofString "begin" == Str.ofString "_promises") = false := by decide +kernel
theorem ne_Proposer_begin__promises_p : ¬ (Str.ofString "begin" = Str.ofString "_promises") := by decide +kernel
theorem ne_Proposer_begin__proposals : (Str.ofString "begin" == Str.ofString "_proposals") = false := by decide +kernel
theorem ne_Proposer_begin__proposals_p : ¬ (Str.ofString "begin" = Str.ofString "_proposals") := by decide +kernel
theorem ne_Proposer_begin__voters : (Str.ofString "begin" == Str.ofString "_voters") = false := by decide +kernel
theorem ne_Proposer_begin__voters_p : ¬ (Str.ofString "begin" = Str.ofString "_voters") := by decide +kernel
theorem ne_Proposer_hear_promise_ballot : (Str.ofString "hear_promise" == Str.ofString "ballot") = false := by decide +kernel
theorem ne_Proposer_hear_promise_ballot_p : ¬ (Str.ofString "hear_promise" = Str.ofString "ballot") := by decide +kernel
theorem ne_Proposer_hear_promise_state : (Str.ofString "hear_promise" == Str.ofString "state") = false := by decide +kernel
theorem ne_Proposer_hear_promise_state_p : ¬ (Str.ofString "hear_promise" = Str.ofString "state") := by decide +kernel
theorem ne_Proposer_hear_promise__index : (Str.ofString "hear_promise" == Str.ofString "_index") = false := by decide +kernel
theorem ne_Proposer_hear_promise__index_p : ¬ (Str.ofString "hear_promise" = Str.ofString "_index") := by decide +kernel
theorem ne_Proposer_hear_promise__count : (Str.ofString "hear_promise" == Str.ofString "_count") = false := by decide +kernel
theorem ne_Proposer_hear_promise__count_p : ¬ (Str.ofString "hear_promise" = Str.ofString "_count") := by decide +kernel
theorem ne_Proposer_hear_promise__seen : (Str.ofString "hear_promise" == Str.ofString "_seen") = false := by decide +kernel
theorem ne_Proposer_hear_promise__seen_p : ¬ (Str.ofString "hear_promise" = Str.ofString "_seen") := by decide +kernel
theorem ne_Proposer_hear_promise__next_slot : (Str.ofString "hear_promise" == Str.ofString "_next_slot") = false := by decide +kernel
theorem ne_Proposer_hear_promise__next_slot_p : ¬ (Str.ofString "hear_promise" = Str.ofString "_next_slot") := by decide +kernel
theorem ne_Proposer_hear_promise__promises : (Str.ofString "hear_promise" == Str.ofString "_promises") = false := by decide +kernel
theorem ne_Proposer_hear_promise__promises_p : ¬ (Str.ofString "hear_promise" = Str.ofString "_promises") := by decide +kernel
theorem ne_Proposer_hear_promise__proposals : (Str.ofString "hear_promise" == Str.ofString "_proposals") = false := by decide +kernel
theorem ne_Proposer_hear_promise__proposals_p : ¬ (Str.ofString "hear_promise" = Str.ofString "_proposals") := by decide +kernel
theorem ne_Proposer_hear_promise__voters : (Str.ofString "hear_promise" == Str.ofString "_voters") = false := by decide +kernel
theorem ne_Proposer_hear_promise__voters_p : ¬ (Str.ofString "hear_promise" = Str.ofString "_voters") := by decide +kernel
theorem ne_Proposer__open_accepted_ballot : (Str.ofString "_open_accepted" == Str.ofString "ballot") = false := by decide +kernel
theorem ne_Proposer__open_accepted_ballot_p : ¬ (Str.ofString "_open_accepted" = Str.ofString "ballot") := by decide +kernel
theorem ne_Proposer__open_accepted_state : (Str.ofString "_open_accepted" == Str.ofString "state") = false := by decide +kernel
theorem ne_Proposer__open_accepted_state_p : ¬ (Str.ofString "_open_accepted" = Str.ofString "state") := by decide +kernel
theorem ne_Proposer__open_accepted__index : (Str.ofString "_open_accepted" == Str.ofString "_index") = false := by decide +kernel
theorem ne_Proposer__open_accepted__index_p : ¬ (Str.ofString "_open_accepted" = Str.ofString "_index") := by decide +kernel
theorem ne_Proposer__open_accepted__count : (Str.ofString "_open_accepted" == Str.ofString "_count") = false := by decide +kernel
theorem ne_Proposer__open_accepted__count_p : ¬ (Str.ofString "_open_accepted" = Str.ofString "_count") := by decide +kernel
theorem ne_Proposer__open_accepted__seen : (Str.ofString "_open_accepted" == Str.ofString "_seen") = false := by decide +kernel
theorem ne_Proposer__open_accepted__seen_p : ¬ (Str.ofString "_open_accepted" = Str.ofString "_seen") := by decide +kernel
theorem ne_Proposer__open_accepted__next_slot : (Str.ofString "_open_accepted" == Str.ofString "_next_slot") = false := by decide +kernel
theorem ne_Proposer__open_accepted__next_slot_p : ¬ (Str.ofString "_open_accepted" = Str.ofString "_next_slot") := by decide +kernel
theorem ne_Proposer__open_accepted__promises : (Str.ofString "_open_accepted" == Str.ofString "_promises") = false := by decide +kernel
theorem ne_Proposer__open_accepted__promises_p : ¬ (Str.ofString "_open_accepted" = Str.ofString "_promises") := by decide +kernel
theorem ne_Proposer__open_accepted__proposals : (Str.ofString "_open_accepted" == Str.ofString "_proposals") = false := by decide +kernel
theorem ne_Proposer__open_accepted__proposals_p : ¬ (Str.ofString "_open_accepted" = Str.ofString "_proposals") := by decide +kernel
theorem ne_Proposer__open_accepted__voters : (Str.ofString "_open_accepted" == Str.ofString "_voters") = false := by decide +kernel
theorem ne_Proposer__open_accepted__voters_p : ¬ (Str.ofString "_open_accepted" = Str.ofString "_voters") := by decide +kernel
theorem ne_Proposer__promised_pairs_ballot : (Str.ofString "_promised_pairs" == Str.ofString "ballot") = false := by decide +kernel
theorem ne_Proposer__promised_pairs_ballot_p : ¬ (Str.ofString "_promised_pairs" = Str.ofString "ballot") := by decide +kernel
theorem ne_Proposer__promised_pairs_state : (Str.ofString "_promised_pairs" == Str.ofString "state") = false := by decide +kernel
theorem ne_Proposer__promised_pairs_state_p : ¬ (Str.ofString "_promised_pairs" = Str.ofString "state") := by decide +kernel
theorem ne_Proposer__promised_pairs__index : (Str.ofString "_promised_pairs" == Str.ofString "_index") = false := by decide +kernel
theorem ne_Proposer__promised_pairs__index_p : ¬ (Str.ofString "_promised_pairs" = Str.ofString "_index") := by decide +kernel
theorem ne_Proposer__promised_pairs__count : (Str.ofString "_promised_pairs" == Str.ofString "_count") = false := by decide +kernel
theorem ne_Proposer__promised_pairs__count_p : ¬ (Str.ofString "_promised_pairs" = Str.ofString "_count") := by decide +kernel
theorem ne_Proposer__promised_pairs__seen : (Str.ofString "_promised_pairs" == Str.ofString "_seen") = false := by decide +kernel
theorem ne_Proposer__promised_pairs__seen_p : ¬ (Str.ofString "_promised_pairs" = Str.ofString "_seen") := by decide +kernel
theorem ne_Proposer__promised_pairs__next_slot : (Str.ofString "_promised_pairs" == Str.ofString "_next_slot") = false := by decide +kernel
theorem ne_Proposer__promised_pairs__next_slot_p : ¬ (Str.ofString "_promised_pairs" = Str.ofString "_next_slot") := by decide +kernel
theorem ne_Proposer__promised_pairs__promises : (Str.ofString "_promised_pairs" == Str.ofString "_promises") = false := by decide +kernel
theorem ne_Proposer__promised_pairs__promises_p : ¬ (Str.ofString "_promised_pairs" = Str.ofString "_promises") := by decide +kernel
theorem ne_Proposer__promised_pairs__proposals : (Str.ofString "_promised_pairs" == Str.ofString "_proposals") = false := by decide +kernel
theorem ne_Proposer__promised_pairs__proposals_p : ¬ (Str.ofString "_promised_pairs" = Str.ofString "_proposals") := by decide +kernel
theorem ne_Proposer__promised_pairs__voters : (Str.ofString "_promised_pairs" == Str.ofString "_voters") = false := by decide +kernel
theorem ne_Proposer__promised_pairs__voters_p : ¬ (Str.ofString "_promised_pairs" = Str.ofString "_voters") := by decide +kernel
theorem ne_Proposer_propose_ballot : (Str.ofString "propose" == Str.ofString "ballot") = false := by decide +kernel
theorem ne_Proposer_propose_ballot_p : ¬ (Str.ofString "propose" = Str.ofString "ballot") := by decide +kernel
theorem ne_Proposer_propose_state : (Str.ofString "propose" == Str.ofString "state") = false := by decide +kernel
theorem ne_Proposer_propose_state_p : ¬ (Str.ofString "propose" = Str.ofString "state") := by decide +kernel
theorem ne_Proposer_propose__index : (Str.ofString "propose" == Str.ofString "_index") = false := by decide +kernel
theorem ne_Proposer_propose__index_p : ¬ (Str.ofString "propose" = Str.ofString "_index") := by decide +kernel
theorem ne_Proposer_propose__count : (Str.ofString "propose" == Str.ofString "_count") = false := by decide +kernel
theorem ne_Proposer_propose__count_p : ¬ (Str.ofString "propose" = Str.ofString "_count") := by decide +kernel
theorem ne_Proposer_propose__seen : (Str.ofString "propose" == Str.ofString "_seen") = false := by decide +kernel
theorem ne_Proposer_propose__seen_p : ¬ (Str.ofString "propose" = Str.ofString "_seen") := by decide +kernel
theorem ne_Proposer_propose__next_slot : (Str.ofString "propose" == Str.ofString "_next_slot") = false := by decide +kernel
theorem ne_Proposer_propose__next_slot_p : ¬ (Str.ofString "propose" = Str.ofString "_next_slot") := by decide +kernel
theorem ne_Proposer_propose__promises : (Str.ofString "propose" == Str.ofString "_promises") = false := by decide +kernel
theorem ne_Proposer_propose__promises_p : ¬ (Str.ofString "propose" = Str.ofString "_promises") := by decide +kernel
theorem ne_Proposer_propose__proposals : (Str.ofString "propose" == Str.ofString "_proposals") = false := by decide +kernel
theorem ne_Proposer_propose__proposals_p : ¬ (Str.ofString "propose" = Str.ofString "_proposals") := by decide +kernel
theorem ne_Proposer_propose__voters : (Str.ofString "propose" == Str.ofString "_voters") = false := by decide +kernel
theorem ne_Proposer_propose__voters_p : ¬ (Str.ofString "propose" = Str.ofString "_voters") := by decide +kernel
theorem ne_Proposer_hear_accepted_ballot : (Str.ofString "hear_accepted" == Str.ofString "ballot") = false := by decide +kernel
theorem ne_Proposer_hear_accepted_ballot_p : ¬ (Str.ofString "hear_accepted" = Str.ofString "ballot") := by decide +kernel
theorem ne_Proposer_hear_accepted_state : (Str.ofString "hear_accepted" == Str.ofString "state") = false := by decide +kernel
theorem ne_Proposer_hear_accepted_state_p : ¬ (Str.ofString "hear_accepted" = Str.ofString "state") := by decide +kernel
theorem ne_Proposer_hear_accepted__index : (Str.ofString "hear_accepted" == Str.ofString "_index") = false := by decide +kernel
theorem ne_Proposer_hear_accepted__index_p : ¬ (Str.ofString "hear_accepted" = Str.ofString "_index") := by decide +kernel
theorem ne_Proposer_hear_accepted__count : (Str.ofString "hear_accepted" == Str.ofString "_count") = false := by decide +kernel
theorem ne_Proposer_hear_accepted__count_p : ¬ (Str.ofString "hear_accepted" = Str.ofString "_count") := by decide +kernel
theorem ne_Proposer_hear_accepted__seen : (Str.ofString "hear_accepted" == Str.ofString "_seen") = false := by decide +kernel
theorem ne_Proposer_hear_accepted__seen_p : ¬ (Str.ofString "hear_accepted" = Str.ofString "_seen") := by decide +kernel
theorem ne_Proposer_hear_accepted__next_slot : (Str.ofString "hear_accepted" == Str.ofString "_next_slot") = false := by decide +kernel
theorem ne_Proposer_hear_accepted__next_slot_p : ¬ (Str.ofString "hear_accepted" = Str.ofString "_next_slot") := by decide +kernel
theorem ne_Proposer_hear_accepted__promises : (Str.ofString "hear_accepted" == Str.ofString "_promises") = false := by decide +kernel
theorem ne_Proposer_hear_accepted__promises_p : ¬ (Str.ofString "hear_accepted" = Str.ofString "_promises") := by decide +kernel
theorem ne_Proposer_hear_accepted__proposals : (Str.ofString "hear_accepted" == Str.ofString "_proposals") = false := by decide +kernel
theorem ne_Proposer_hear_accepted__proposals_p : ¬ (Str.ofString "hear_accepted" = Str.ofString "_proposals") := by decide +kernel
theorem ne_Proposer_hear_accepted__voters : (Str.ofString "hear_accepted" == Str.ofString "_voters") = false := by decide +kernel
theorem ne_Proposer_hear_accepted__voters_p : ¬ (Str.ofString "hear_accepted" = Str.ofString "_voters") := by decide +kernel
theorem ne_Proposer_open_proposals_ballot : (Str.ofString "open_proposals" == Str.ofString "ballot") = false := by decide +kernel
theorem ne_Proposer_open_proposals_ballot_p : ¬ (Str.ofString "open_proposals" = Str.ofString "ballot") := by decide +kernel
theorem ne_Proposer_open_proposals_state : (Str.ofString "open_proposals" == Str.ofString "state") = false := by decide +kernel
theorem ne_Proposer_open_proposals_state_p : ¬ (Str.ofString "open_proposals" = Str.ofString "state") := by decide +kernel
theorem ne_Proposer_open_proposals__index : (Str.ofString "open_proposals" == Str.ofString "_index") = false := by decide +kernel
theorem ne_Proposer_open_proposals__index_p : ¬ (Str.ofString "open_proposals" = Str.ofString "_index") := by decide +kernel
theorem ne_Proposer_open_proposals__count : (Str.ofString "open_proposals" == Str.ofString "_count") = false := by decide +kernel
theorem ne_Proposer_open_proposals__count_p : ¬ (Str.ofString "open_proposals" = Str.ofString "_count") := by decide +kernel
theorem ne_Proposer_open_proposals__seen : (Str.ofString "open_proposals" == Str.ofString "_seen") = false := by decide +kernel
theorem ne_Proposer_open_proposals__seen_p : ¬ (Str.ofString "open_proposals" = Str.ofString "_seen") := by decide +kernel
theorem ne_Proposer_open_proposals__next_slot : (Str.ofString "open_proposals" == Str.ofString "_next_slot") = false := by decide +kernel
theorem ne_Proposer_open_proposals__next_slot_p : ¬ (Str.ofString "open_proposals" = Str.ofString "_next_slot") := by decide +kernel
theorem ne_Proposer_open_proposals__promises : (Str.ofString "open_proposals" == Str.ofString "_promises") = false := by decide +kernel
theorem ne_Proposer_open_proposals__promises_p : ¬ (Str.ofString "open_proposals" = Str.ofString "_promises") := by decide +kernel
theorem ne_Proposer_open_proposals__proposals : (Str.ofString "open_proposals" == Str.ofString "_proposals") = false := by decide +kernel
theorem ne_Proposer_open_proposals__proposals_p : ¬ (Str.ofString "open_proposals" = Str.ofString "_proposals") := by decide +kernel
theorem ne_Proposer_open_proposals__voters : (Str.ofString "open_proposals" == Str.ofString "_voters") = false := by decide +kernel
theorem ne_Proposer_open_proposals__voters_p : ¬ (Str.ofString "open_proposals" = Str.ofString "_voters") := by decide +kernel
theorem ne_Proposer_stop_ballot : (Str.ofString "stop" == Str.ofString "ballot") = false := by decide +kernel
theorem ne_Proposer_stop_ballot_p : ¬ (Str.ofString "stop" = Str.ofString "ballot") := by decide +kernel
theorem ne_Proposer_stop_state : (Str.ofString "stop" == Str.ofString "state") = false := by decide +kernel
theorem ne_Proposer_stop_state_p : ¬ (Str.ofString "stop" = Str.ofString "state") := by decide +kernel
theorem ne_Proposer_stop__index : (Str.ofString "stop" == Str.ofString "_index") = false := by decide +kernel
theorem ne_Proposer_stop__index_p : ¬ (Str.ofString "stop" = Str.ofString "_index") := by decide +kernel
theorem ne_Proposer_stop__count : (Str.ofString "stop" == Str.ofString "_count") = false := by decide +kernel
theorem ne_Proposer_stop__count_p : ¬ (Str.ofString "stop" = Str.ofString "_count") := by decide +kernel
theorem ne_Proposer_stop__seen : (Str.ofString "stop" == Str.ofString "_seen") = false := by decide +kernel
theorem ne_Proposer_stop__seen_p : ¬ (Str.ofString "stop" = Str.ofString "_seen") := by decide +kernel
theorem ne_Proposer_stop__next_slot : (Str.ofString "stop" == Str.ofString "_next_slot") = false := by decide +kernel
theorem ne_Proposer_stop__next_slot_p : ¬ (Str.ofString "stop" = Str.ofString "_next_slot") := by decide +kernel
theorem ne_Proposer_stop__promises : (Str.ofString "stop" == Str.ofString "_promises") = false := by decide +kernel
theorem ne_Proposer_stop__promises_p : ¬ (Str.ofString "stop" = Str.ofString "_promises") := by decide +kernel
theorem ne_Proposer_stop__proposals : (Str.ofString "stop" == Str.ofString "_proposals") = false := by decide +kernel
theorem ne_Proposer_stop__proposals_p : ¬ (Str.ofString "stop" = Str.ofString "_proposals") := by decide +kernel
theorem ne_Proposer_stop__voters : (Str.ofString "stop" == Str.ofString "_voters") = false := by decide +kernel
theorem ne_Proposer_stop__voters_p : ¬ (Str.ofString "stop" = Str.ofString "_voters") := by decide +kernel
theorem ne_Proposer__forget_proposals_ballot : (Str.ofString "_forget_proposals" == Str.ofString "ballot") = false := by decide +kernel
theorem ne_Proposer__forget_proposals_ballot_p : ¬ (Str.ofString "_forget_proposals" = Str.ofString "ballot") := by decide +kernel
theorem ne_Proposer__forget_proposals_state : (Str.ofString "_forget_proposals" == Str.ofString "state") = false := by decide +kernel
theorem ne_Proposer__forget_proposals_state_p : ¬ (Str.ofString "_forget_proposals" = Str.ofString "state") := by decide +kernel
theorem ne_Proposer__forget_proposals__index : (Str.ofString "_forget_proposals" == Str.ofString "_index") = false := by decide +kernel
theorem ne_Proposer__forget_proposals__index_p : ¬ (Str.ofString "_forget_proposals" = Str.ofString "_index") := by decide +kernel
theorem ne_Proposer__forget_proposals__count : (Str.ofString "_forget_proposals" == Str.ofString "_count") = false := by decide +kernel
theorem ne_Proposer__forget_proposals__count_p : ¬ (Str.ofString "_forget_proposals" = Str.ofString "_count") := by decide +kernel
theorem ne_Proposer__forget_proposals__seen : (Str.ofString "_forget_proposals" == Str.ofString "_seen") = false := by decide +kernel
theorem ne_Proposer__forget_proposals__seen_p : ¬ (Str.ofString "_forget_proposals" = Str.ofString "_seen") := by decide +kernel
theorem ne_Proposer__forget_proposals__next_slot : (Str.ofString "_forget_proposals" == Str.ofString "_next_slot") = false := by decide +kernel
theorem ne_Proposer__forget_proposals__next_slot_p : ¬ (Str.ofString "_forget_proposals" = Str.ofString "_next_slot") := by decide +kernel
theorem ne_Proposer__forget_proposals__promises : (Str.ofString "_forget_proposals" == Str.ofString "_promises") = false := by decide +kernel
theorem ne_Proposer__forget_proposals__promises_p : ¬ (Str.ofString "_forget_proposals" = Str.ofString "_promises") := by decide +kernel
theorem ne_Proposer__forget_proposals__proposals : (Str.ofString "_forget_proposals" == Str.ofString "_proposals") = false := by decide +kernel
theorem ne_Proposer__forget_proposals__proposals_p : ¬ (Str.ofString "_forget_proposals" = Str.ofString "_proposals") := by decide +kernel
theorem ne_Proposer__forget_proposals__voters : (Str.ofString "_forget_proposals" == Str.ofString "_voters") = false := by decide +kernel
theorem ne_Proposer__forget_proposals__voters_p : ¬ (Str.ofString "_forget_proposals" = Str.ofString "_voters") := by decide +kernel
/-- the attributes of a Proposer, in the order in which they are stored -/
def fl_Proposer (v0 v1 v2 v3 v4 v5 v6 v7 v8 : V) : List (Str × V) := [("ballot", v0), ("state", v1), ("_index", v2), ("_count", v3), ("_seen", v4), ("_next_slot", v5), ("_promises", v6), ("_proposals", v7), ("_voters", v8)]
theorem fl_Proposer_ballot {v0 v1 v2 v3 v4 v5 v6 v7 v8 : V} : (fl_Proposer v0 v1 v2 v3 v4 v5 v6 v7 v8).lookup ("ballot" : Str) = some v0 := by unfold fl_Proposer; simp [List.lookup, ne_Proposer_ballot_state, ne_Proposer_ballot__index, ne_Proposer_ballot__count, ne_Proposer_ballot__seen, ne_Proposer_ballot__next_slot, ne_Proposer_ballot__promises, ne_Proposer_ballot__proposals, ne_Proposer_ballot__voters, ne_Proposer_state_ballot, ne_Proposer_state__index, ne_Proposer_state__count, ne_Proposer_state__seen, ne_Proposer_state__next_slot, ne_Proposer_state__promises, ne_Proposer_state__proposals, ne_Proposer_state__voters, ne_Proposer__index_ballot, ne_Proposer__index_state, ne_Proposer__index__count, ne_Proposer__index__seen, ne_Proposer__index__next_slot, ne_Proposer__index__promises, ne_Proposer__index__proposals, ne_Proposer__index__voters, ne_Proposer__count_ballot, ne_Proposer__count_state, ne_Proposer__count__index, ne_Proposer__count__seen, ne_Proposer__count__next_slot, ne_Proposer__count__promises, ne_Proposer__count__proposals, ne_Proposer__count__voters, ne_Proposer__seen_ballot, ne_Proposer__seen_state, ne_Proposer__seen__index, ne_Proposer__seen__count, ne_Proposer__seen__next_slot, ne_Proposer__seen__promises, ne_Proposer__seen__proposals, ne_Proposer__seen__voters, ne_Proposer__next_slot_ballot, ne_Proposer__next_slot_state, ne_Proposer__next_slot__index, ne_Proposer__next_slot__count, ne_Proposer__next_slot__seen, ne_Proposer__next_slot__promises, ne_Proposer__next_slot__proposals, ne_Proposer__next_slot__voters, ne_Proposer__promises_ballot, ne_Proposer__promises_state, ne_Proposer__promises__index, ne_Proposer__promises__count, ne_Proposer__promises__seen, ne_Proposer__promises__next_slot, ne_Proposer__promises__proposals, ne_Proposer__promises__voters, ne_Proposer__proposals_ballot, ne_Proposer__proposals_state, ne_Proposer__proposals__index, ne_Proposer__proposals__count, ne_Proposer__proposals__seen, ne_Proposer__proposals__next_slot, ne_Proposer__proposals__promises, ne_Proposer__proposals__voters, ne_Proposer__voters_ballot, ne_Proposer__voters_state, ne_Proposer__voters__index, ne_Proposer__voters__count, ne_Proposer__voters__seen, ne_Proposer__voters__next_slot, ne_Proposer__voters__promises, ne_Proposer__voters__proposals, ne_Proposer_saw_ballot, ne_Proposer_saw_state, ne_Proposer_saw__index, ne_Proposer_saw__count, ne_Proposer_saw__seen, ne_Proposer_saw__next_slot, ne_Proposer_saw__promises, ne_Proposer_saw__proposals, ne_Proposer_saw__voters, ne_Proposer_begin_ballot, ne_Proposer_begin_state, ne_Proposer_begin__index, ne_Proposer_begin__count, ne_Proposer_begin__seen, ne_Proposer_begin__next_slot, ne_Proposer_begin__promises, ne_Proposer_begin__proposals, ne_Proposer_begin__voters, ne_Proposer_hear_promise_ballot, ne_Proposer_hear_promise_state, ne_Proposer_hear_promise__index, ne_Proposer_hear_promise__count, ne_Proposer_hear_promise__seen, ne_Proposer_hear_promise__next_slot, ne_Proposer_hear_promise__promises, ne_Proposer_hear_promise__proposals, ne_Proposer_hear_promise__voters, ne_Proposer__open_accepted_ballot, ne_Proposer__open_accepted_state, ne_Proposer__open_accepted__index, ne_Proposer__open_accepted__count, ne_Proposer__open_accepted__seen, ne_Proposer__open_accepted__next_slot, ne_Proposer__open_accepted__promises, ne_Proposer__open_accepted__proposals, ne_Proposer__open_accepted__voters, ne_Proposer__promised_pairs_ballot, ne_Proposer__promised_pairs_state, ne_Proposer__promised_pairs__index, ne_Proposer__promised_pairs__count, ne_Proposer__promised_pairs__seen, ne_Proposer__promised_pairs__next_slot, ne_Proposer__promised_pairs__promises, ne_Proposer__promised_pairs__proposals, ne_Proposer__promised_pairs__voters, ne_Proposer_propose_ballot, ne_Proposer_propose_state, ne_Proposer_propose__index, ne_Proposer_propose__count, ne_Proposer_propose__seen, ne_Proposer_propose__next_slot, ne_Proposer_propose__promises, ne_Proposer_propose__proposals, ne_Proposer_propose__voters, ne_Proposer_hear_accepted_ballot, ne_Proposer_hear_accepted_state, ne_Proposer_hear_accepted__index, ne_Proposer_hear_accepted__count, ne_Proposer_hear_accepted__seen, ne_Proposer_hear_accepted__next_slot, ne_Proposer_hear_accepted__promises, ne_Proposer_hear_accepted__proposals, ne_Proposer_hear_accepted__voters, ne_Proposer_open_proposals_ballot, ne_Proposer_open_proposals_state, ne_Proposer_open_proposals__index, ne_Proposer_open_proposals__count, ne_Proposer_open_proposals__seen, ne_Proposer_open_proposals__next_slot, ne_Proposer_open_proposals__promises, ne_Proposer_open_proposals__proposals, ne_Proposer_open_proposals__voters, ne_Proposer_stop_ballot, ne_Proposer_stop_state, ne_Proposer_stop__index, ne_Proposer_stop__count, ne_Proposer_stop__seen, ne_Proposer_stop__next_slot, ne_Proposer_stop__promises, ne_Proposer_stop__proposals, ne_Proposer_stop__voters, ne_Proposer__forget_proposals_ballot, ne_Proposer__forget_proposals_state, ne_Proposer__forget_proposals__index, ne_Proposer__forget_proposals__count, ne_Proposer__forget_proposals__seen, ne_Proposer__forget_proposals__next_slot, ne_Proposer__forget_proposals__promises, ne_Proposer__forget_proposals__proposals, ne_Proposer__forget_proposals__voters, ne_Proposer_ballot_state_p, ne_Proposer_ballot__index_p, ne_Proposer_ballot__count_p, ne_Proposer_ballot__seen_p, ne_Proposer_ballot__next_slot_p, ne_Proposer_ballot__promises_p, ne_Proposer_ballot__proposals_p, ne_Proposer_ballot__voters_p, ne_Proposer_state_ballot_p, ne_Proposer_state__index_p, ne_Proposer_state__count_p, ne_Proposer_state__seen_p, ne_Proposer_state__next_slot_p, ne_Proposer_state__promises_p, ne_Proposer_state__proposals_p, ne_Proposer_state__voters_p, ne_Proposer__index_ballot_p, ne_Proposer__index_state_p, ne_Proposer__index__count_p, ne_Proposer__index__seen_p, ne_Proposer__index__next_slot_p, ne_Proposer__index__promises_p, ne_Proposer__index__proposals_p, ne_Proposer__index__voters_p, ne_Proposer__count_ballot_p, ne_Proposer__count_state_p, ne_Proposer__count__index_p, ne_Proposer__count__seen_p, ne_Proposer__count__next_slot_p, ne_Proposer__count__promises_p, ne_Proposer__count__proposals_p, ne_Proposer__count__voters_p, ne_Proposer__seen_ballot_p, ne_Proposer__seen_state_p, ne_Proposer__seen__index_p, ne_Proposer__seen__count_p, ne_Proposer__seen__next_slot_p, ne_Proposer__seen__promises_p, ne_Proposer__seen__proposals_p, ne_Proposer__seen__voters_p, ne_Proposer__next_slot_ballot_p, ne_Proposer__next_slot_state_p, ne_Proposer__next_slot__index_p, ne_Proposer__next_slot__count_p, ne_Proposer__next_slot__seen_p, ne_Proposer__next_slot__promises_p, ne_Proposer__next_slot__proposals_p, ne_Proposer__next_slot__voters_p, ne_Proposer__promises_ballot_p, ne_Proposer__promises_state_p, ne_Proposer__promises__index_p, ne_Proposer__promises__count_p, ne_Proposer__promises__seen_p, ne_Proposer__promises__next_slot_p, ne_Proposer__promises__proposals_p, ne_Proposer__promises__voters_p, ne_Proposer__proposals_ballot_p, ne_Proposer__proposals_state_p, ne_Proposer__proposals__index_p, ne_Proposer__proposals__count_p, ne_Proposer__proposals__seen_p, ne_Proposer__proposals__next_slot_p, ne_Proposer__proposals__promises_p, ne_Proposer__proposals__voters_p, ne_Proposer__voters_ballot_p, ne_Proposer__voters_state_p, ne_Proposer__voters__index_p, ne_Proposer__voters__count_p, ne_Proposer__voters__seen_p, ne_Proposer__voters__next_slot_p, ne_Proposer__voters__promises_p, ne_Proposer__voters__proposals_p, ne_Proposer_saw_ballot_p, ne_Proposer_saw_state_p, ne_Proposer_saw__index_p, ne_Proposer_saw__count_p, ne_Proposer_saw__seen_p, ne_Proposer_saw__next_slot_p, ne_Proposer_saw__promises_p, ne_Proposer_saw__proposals_p, ne_Proposer_saw__voters_p, ne_Proposer_begin_ballot_p, ne_Proposer_begin_state_p, ne_Proposer_begin__index_p, ne_Proposer_begin__count_p, ne_Proposer_begin__seen_p, ne_Proposer_begin__next_slot_p, ne_Proposer_begin__promises_p, ne_Proposer_begin__proposals_p, ne_Proposer_begin__voters_p, ne_Proposer_hear_promise_ballot_p, ne_Proposer_hear_promise_state_p, ne_Proposer_hear_promise__index_p, ne_Proposer_hear_promise__count_p, ne_Proposer_hear_promise__seen_p, ne_Proposer_hear_promise__next_slot_p, ne_Proposer_hear_promise__promises_p, ne_Proposer_hear_promise__proposals_p, ne_Proposer_hear_promise__voters_p, ne_Proposer__open_accepted_ballot_p, ne_Proposer__open_accepted_state_p, ne_Proposer__open_accepted__index_p, ne_Proposer__open_accepted__count_p, ne_Proposer__open_accepted__seen_p, ne_Proposer__open_accepted__next_slot_p, ne_Proposer__open_accepted__promises_p, ne_Proposer__open_accepted__proposals_p, ne_Proposer__open_accepted__voters_p, ne_Proposer__promised_pairs_ballot_p, ne_Proposer__promised_pairs_state_p, ne_Proposer__promised_pairs__index_p, ne_Proposer__promised_pairs__count_p, ne_Proposer__promised_pairs__seen_p, ne_Proposer__promised_pairs__next_slot_p, ne_Proposer__promised_pairs__promises_p, ne_Proposer__promised_pairs__proposals_p, ne_Proposer__promised_pairs__voters_p, ne_Proposer_propose_ballot_p, ne_Proposer_propose_state_p, ne_Proposer_propose__index_p, ne_Proposer_propose__count_p, ne_Proposer_propose__seen_p, ne_Proposer_propose__next_slot_p, ne_Proposer_propose__promises_p, ne_Proposer_propose__proposals_p, ne_Proposer_propose__voters_p, ne_Proposer_hear_accepted_ballot_p, ne_Proposer_hear_accepted_state_p, ne_Proposer_hear_accepted__index_p, ne_Proposer_hear_accepted__count_p, ne_Proposer_hear_accepted__seen_p, ne_Proposer_hear_accepted__next_slot_p, ne_Proposer_hear_accepted__promises_p, ne_Proposer_hear_accepted__proposals_p, ne_Proposer_hear_accepted__voters_p, ne_Proposer_open_proposals_ballot_p, ne_Proposer_open_proposals_state_p, ne_Proposer_open_proposals__index_p, ne_Proposer_open_proposals__count_p, ne_Proposer_open_proposals__seen_p, ne_Proposer_open_proposals__next_slot_p, ne_Proposer_open_proposals__promises_p, ne_Proposer_open_proposals__proposals_p, ne_Proposer_open_proposals__voters_p, ne_Proposer_stop_ballot_p, ne_Proposer_stop_state_p, ne_Proposer_stop__index_p, ne_Proposer_stop__count_p, ne_Proposer_stop__seen_p, ne_Proposer_stop__next_slot_p, ne_Proposer_stop__promises_p, ne_Proposer_stop__proposals_p, ne_Proposer_stop__voters_p, ne_Proposer__forget_proposals_ballot_p, ne_Proposer__forget_proposals_state_p, ne_Proposer__forget_proposals__index_p, ne_Proposer__forget_proposals__count_p, ne_Proposer__forget_proposals__seen_p, ne_Proposer__forget_proposals__next_slot_p, ne_Proposer__forget_proposals__promises_p, ne_Proposer__forget_proposals__proposals_p, ne_Proposer__forget_proposals__voters_p]
theorem pf_Proposer_ballot {v0 v1 v2 v3 v4 v5 v6 v7 v8 x : V} : putF ("ballot" : Str) x (fl_Proposer v0 v1 v2 v3 v4 v5 v6 v7 v8) = fl_Proposer x v1 v2 v3 v4 v5 v6 v7 v8 := by unfold fl_Proposer; simp [putF, ne_Proposer_ballot_state, ne_Proposer_ballot__index, ne_Proposer_ballot__count, ne_Proposer_ballot__seen, ne_Proposer_ballot__next_slot, ne_Proposer_ballot__promises, ne_Proposer_ballot__proposals, ne_Proposer_ballot__voters, ne_Proposer_state_ballot, ne_Proposer_state__index, ne_Proposer_state__count, ne_Proposer_state__seen, ne_Proposer_state__next_slot, ne_Proposer_state__promises, ne_Proposer_state__proposals, ne_Proposer_state__voters, ne_Proposer__index_ballot, ne_Proposer__index_state, ne_Proposer__index__count, ne_Proposer__index__seen, ne_Proposer__index__next_slot, ne_Proposer__index__promises, ne_Proposer__index__proposals, ne_Proposer__index__voters, ne_Proposer__count_ballot, ne_Proposer__count_state, ne_Proposer__count__index, ne_Proposer__count__seen, ne_Proposer__count__next_slot, ne_Proposer__count__promises, ne_Proposer__count__proposals, ne_Proposer__count__voters, ne_Proposer__seen_ballot, ne_Proposer__seen_state, ne_Proposer__seen__index, ne_Proposer__seen__count, ne_Proposer__seen__next_slot, ne_Proposer__seen__promises, ne_Proposer__seen__proposals, ne_Proposer__seen__voters, ne_Proposer__next_slot_ballot, ne_Proposer__next_slot_state, ne_Proposer__next_slot__index, ne_Proposer__next_slot__count, ne_Proposer__next_slot__seen, ne_Proposer__next_slot__promises, ne_Proposer__next_slot__proposals, ne_Proposer__next_slot__voters, ne_Proposer__promises_ballot, ne_Proposer__promises_state, ne_Proposer__promises__index, ne_Proposer__promises__count, ne_Proposer__promises__seen, ne_Proposer__promises__next_slot, ne_Proposer__promises__proposals, ne_Proposer__promises__voters, ne_Proposer__proposals_ballot, ne_Proposer__proposals_state, ne_Proposer__proposals__index, ne_Proposer__proposals__count, ne_Proposer__proposals__seen, ne_Proposer__proposals__next_slot, ne_Proposer__proposals__promises, ne_Proposer__proposals__voters, ne_Proposer__voters_ballot, ne_Proposer__voters_state, ne_Proposer__voters__index, ne_Proposer__voters__count, ne_Proposer__voters__seen, ne_Proposer__voters__next_slot, ne_Proposer__voters__promises, ne_Proposer__voters__proposals, ne_Proposer_saw_ballot, ne_Proposer_saw_state, ne_Proposer_saw__index, ne_Proposer_saw__count, ne_Proposer_saw__seen, ne_Proposer_saw__next_slot, ne_Proposer_saw__promises, ne_Proposer_saw__proposals, ne_Proposer_saw__voters, ne_Proposer_begin_ballot, ne_Proposer_begin_state, ne_Proposer_begin__index, ne_Proposer_begin__count, ne_Proposer_begin__seen, ne_Proposer_begin__next_slot, ne_Proposer_begin__promises, ne_Proposer_begin__proposals, ne_Proposer_begin__voters, ne_Proposer_hear_promise_ballot, ne_Proposer_hear_promise_state, ne_Proposer_hear_promise__index, ne_Proposer_hear_promise__count, ne_Proposer_hear_promise__seen, ne_Proposer_hear_promise__next_slot, ne_Proposer_hear_promise__promises, ne_Proposer_hear_promise__proposals, ne_Proposer_hear_promise__voters, ne_Proposer__open_accepted_ballot, ne_Proposer__open_accepted_state, ne_Proposer__open_accepted__index, ne_Proposer__open_accepted__count, ne_Proposer__open_accepted__seen, ne_Proposer__open_accepted__next_slot, ne_Proposer__open_accepted__promises, ne_Proposer__open_accepted__proposals, ne_Proposer__open_accepted__voters, ne_Proposer__promised_pairs_ballot, ne_Proposer__promised_pairs_state, ne_Proposer__promised_pairs__index, ne_Proposer__promised_pairs__count, ne_Proposer__promised_pairs__seen, ne_Proposer__promised_pairs__next_slot, ne_Proposer__promised_pairs__promises, ne_Proposer__promised_pairs__proposals, ne_Proposer__promised_pairs__voters, ne_Proposer_propose_ballot, ne_Proposer_propose_state, ne_Proposer_propose__index, ne_Proposer_propose__count, ne_Proposer_propose__seen, ne_Proposer_propose__next_slot, ne_Proposer_propose__promises, ne_Proposer_propose__proposals, ne_Proposer_propose__voters, ne_Proposer_hear_accepted_ballot, ne_Proposer_hear_accepted_state, ne_Proposer_hear_accepted__index, ne_Proposer_hear_accepted__count, ne_Proposer_hear_accepted__seen, ne_Proposer_hear_accepted__next_slot, ne_Proposer_hear_accepted__promises, ne_Proposer_hear_accepted__proposals, ne_Proposer_hear_accepted__voters, ne_Proposer_open_proposals_ballot, ne_Proposer_open_proposals_state, ne_Proposer_open_proposals__index, ne_Proposer_open_proposals__count, ne_Proposer_open_proposals__seen, ne_Proposer_open_proposals__next_slot, ne_Proposer_open_proposals__promises, ne_Proposer_open_proposals__proposals, ne_Proposer_open_proposals__voters, ne_Proposer_stop_ballot, ne_Proposer_stop_state, ne_Proposer_stop__index, ne_Proposer_stop__count, ne_Proposer_stop__seen, ne_Proposer_stop__next_slot, ne_Proposer_stop__promises, ne_Proposer_stop__proposals, ne_Proposer_stop__voters, ne_Proposer__forget_proposals_ballot, ne_Proposer__forget_proposals_state, ne_Proposer__forget_proposals__index, ne_Proposer__forget_proposals__count, ne_Proposer__forget_proposals__seen, ne_Proposer__forget_proposals__next_slot, ne_Proposer__forget_proposals__promises, ne_Proposer__forget_proposals__proposals, ne_Proposer__forget_proposals__voters, ne_Proposer_ballot_state_p, ne_Proposer_ballot__index_p, ne_Proposer_ballot__count_p, ne_Proposer_ballot__seen_p, ne_Proposer_ballot__next_slot_p, ne_Proposer_ballot__promises_p, ne_Proposer_ballot__proposals_p, ne_Proposer_ballot__voters_p, ne_Proposer_state_ballot_p, ne_Proposer_state__index_p, ne_Proposer_state__count_p, ne_Proposer_state__seen_p, ne_Proposer_state__next_slot_p, ne_Proposer_state__promises_p, ne_Proposer_state__proposals_p, ne_Proposer_state__voters_p, ne_Proposer__index_ballot_p, ne_Proposer__index_state_p, ne_Proposer__index__count_p, ne_Proposer__index__seen_p, ne_Proposer__index__next_slot_p, ne_Proposer__index__promises_p, ne_Proposer__index__proposals_p, ne_Proposer__index__voters_p, ne_Proposer__count_ballot_p, ne_Proposer__count_state_p, ne_Proposer__count__index_p, ne_Proposer__count__seen_p, ne_Proposer__count__next_slot_p, ne_Proposer__count__promises_p, ne_Proposer__count__proposals_p, ne_Proposer__count__voters_p, ne_Proposer__seen_ballot_p, ne_Proposer__seen_state_p, ne_Proposer__seen__index_p, ne_Proposer__seen__count_p, ne_Proposer__seen__next_slot_p, ne_Proposer__seen__promises_p, ne_Proposer__seen__proposals_p, ne_Proposer__seen__voters_p, ne_Proposer__next_slot_ballot_p, ne_Proposer__next_slot_state_p, ne_Proposer__next_slot__index_p, ne_Proposer__next_slot__count_p, ne_Proposer__next_slot__seen_p, ne_Proposer__next_slot__promises_p, ne_Proposer__next_slot__proposals_p, ne_Proposer__next_slot__voters_p, ne_Proposer__promises_ballot_p, ne_Proposer__promises_state_p, ne_Proposer__promises__index_p, ne_Proposer__promises__count_p, ne_Proposer__promises__seen_p, ne_Proposer__promises__next_slot_p, ne_Proposer__promises__proposals_p, ne_Proposer__promises__voters_p, ne_Proposer__proposals_ballot_p, ne_Proposer__proposals_state_p, ne_Proposer__proposals__index_p, ne_Proposer__proposals__count_p, ne_Proposer__proposals__seen_p, ne_Proposer__proposals__next_slot_p, ne_Proposer__proposals__promises_p, ne_Proposer__proposals__voters_p, ne_Proposer__voters_ballot_p, ne_Proposer__voters_state_p, ne_Proposer__voters__index_p, ne_Proposer__voters__count_p, ne_Proposer__voters__seen_p, ne_Proposer__voters__next_slot_p, ne_Proposer__voters__promises_p, ne_Proposer__voters__proposals_p, ne_Proposer_saw_ballot_p, ne_Proposer_saw_state_p, ne_Proposer_saw__index_p, ne_Proposer_saw__count_p, ne_Proposer_saw__seen_p, ne_Proposer_saw__next_slot_p, ne_Proposer_saw__promises_p, ne_Proposer_saw__proposals_p, ne_Proposer_saw__voters_p, ne_Proposer_begin_ballot_p, ne_Proposer_begin_state_p, ne_Proposer_begin__index_p, ne_Proposer_begin__count_p, ne_Proposer_begin__seen_p, ne_Proposer_begin__next_slot_p, ne_Proposer_begin__promises_p, ne_Proposer_begin__proposals_p, ne_Proposer_begin__voters_p, ne_Proposer_hear_promise_ballot_p, ne_Proposer_hear_promise_state_p, ne_Proposer_hear_promise__index_p, ne_Proposer_hear_promise__count_p, ne_Proposer_hear_promise__seen_p, ne_Proposer_hear_promise__next_slot_p, ne_Proposer_hear_promise__promises_p, ne_Proposer_hear_promise__proposals_p, ne_Proposer_hear_promise__voters_p, ne_Proposer__open_accepted_ballot_p, ne_Proposer__open_accepted_state_p, ne_Proposer__open_accepted__index_p, ne_Proposer__open_accepted__count_p, ne_Proposer__open_accepted__seen_p, ne_Proposer__open_accepted__next_slot_p, ne_Proposer__open_accepted__promises_p, ne_Proposer__open_accepted__proposals_p, ne_Proposer__open_accepted__voters_p, ne_Proposer__promised_pairs_ballot_p, ne_Proposer__promised_pairs_state_p, ne_Proposer__promised_pairs__index_p, ne_Proposer__promised_pairs__count_p, ne_Proposer__promised_pairs__seen_p, ne_Proposer__promised_pairs__next_slot_p, ne_Proposer__promised_pairs__promises_p, ne_Proposer__promised_pairs__proposals_p, ne_Proposer__promised_pairs__voters_p, ne_Proposer_propose_ballot_p, ne_Proposer_propose_state_p, ne_Proposer_propose__index_p, ne_Proposer_propose__count_p, ne_Proposer_propose__seen_p, ne_Proposer_propose__next_slot_p, ne_Proposer_propose__promises_p, ne_Proposer_propose__proposals_p, ne_Proposer_propose__voters_p, ne_Proposer_hear_accepted_ballot_p, ne_Proposer_hear_accepted_state_p, ne_Proposer_hear_accepted__index_p, ne_Proposer_hear_accepted__count_p, ne_Proposer_hear_accepted__seen_p, ne_Proposer_hear_accepted__next_slot_p, ne_Proposer_hear_accepted__promises_p, ne_Proposer_hear_accepted__proposals_p, ne_Proposer_hear_accepted__voters_p, ne_Proposer_open_proposals_ballot_p, ne_Proposer_open_proposals_state_p, ne_Proposer_open_proposals__index_p, ne_Proposer_open_proposals__count_p, ne_Proposer_open_proposals__seen_p, ne_Proposer_open_proposals__next_slot_p, ne_Proposer_open_proposals__promises_p, ne_Proposer_open_proposals__proposals_p, ne_Proposer_open_proposals__voters_p, ne_Proposer_stop_ballot_p, ne_Proposer_stop_state_p, ne_Proposer_stop__index_p, ne_Proposer_stop__count_p, ne_Proposer_stop__seen_p, ne_Proposer_stop__next_slot_p, ne_Proposer_stop__promises_p, ne_Proposer_stop__proposals_p, ne_Proposer_stop__voters_p, ne_Proposer__forget_proposals_ballot_p, ne_Proposer__forget_proposals_state_p, ne_Proposer__forget_proposals__index_p, ne_Proposer__forget_proposals__count_p, ne_Proposer__forget_proposals__seen_p, ne_Proposer__forget_proposals__next_slot_p, ne_Proposer__forget_proposals__promises_p, ne_Proposer__forget_proposals__proposals_p, ne_Proposer__forget_proposals__voters_p]
theorem fl_Proposer_state {v0 v1 v2 v3 v4 v5 v6 v7 v8 : V} : (fl_Proposer v0 v1 v2 v3 v4 v5 v6 v7 v8).lookup ("state" : Str) = some v1 := by unfold fl_Proposer; simp [List.lookup, ne_Proposer_ballot_state, ne_Proposer_ballot__index, ne_Proposer_ballot__count, ne_Proposer_ballot__seen, ne_Proposer_ballot__next_slot, ne_Proposer_ballot__promises, ne_Proposer_ballot__proposals, ne_Proposer_ballot__voters, ne_Proposer_state_ballot, ne_Proposer_state__index, ne_Proposer_state__count, ne_Proposer_state__seen, ne_Proposer_state__next_slot, ne_Proposer_state__promises, ne_Proposer_state__proposals, ne_Proposer_state__voters, ne_Proposer__index_ballot, ne_Proposer__index_state, ne_Proposer__index__count, ne_Proposer__index__seen, ne_Proposer__index__next_slot, ne_Proposer__index__promises, ne_Proposer__index__proposals, ne_Proposer__index__voters, ne_Proposer__count_ballot, ne_Proposer__count_state, ne_Proposer__count__index, ne_Proposer__count__seen, ne_Proposer__count__next_slot, ne_Proposer__count__promises, ne_Proposer__count__proposals, ne_Proposer__count__voters, ne_Proposer__seen_ballot, ne_Proposer__seen_state, ne_Proposer__seen__index, ne_Proposer__seen__count, ne_Proposer__seen__next_slot, ne_Proposer__seen__promises, ne_Proposer__seen__proposals, ne_Proposer__seen__voters, ne_Proposer__next_slot_ballot, ne_Proposer__next_slot_state, ne_Proposer__next_slot__index, ne_Proposer__next_slot__count, ne_Proposer__next_slot__seen, ne_Proposer__next_slot__promises, ne_Proposer__next_slot__proposals, ne_Proposer__next_slot__voters, ne_Proposer__promises_ballot, ne_Proposer__promises_state, ne_Proposer__promises__index, ne_Proposer__promises__count, ne_Proposer__promises__seen, ne_Proposer__promises__next_slot, ne_Proposer__promises__proposals, ne_Proposer__promises__voters, ne_Proposer__proposals_ballot, ne_Proposer__proposals_state, ne_Proposer__proposals__index, ne_Proposer__proposals__count, ne_Proposer__proposals__seen, ne_Proposer__proposals__next_slot, ne_Proposer__proposals__promises, ne_Proposer__proposals__voters, ne_Proposer__voters_ballot, ne_Proposer__voters_state, ne_Proposer__voters__index, ne_Proposer__voters__count, ne_Proposer__voters__seen, ne_Proposer__voters__next_slot, ne_Proposer__voters__promises, ne_Proposer__voters__proposals, ne_Proposer_saw_ballot, ne_Proposer_saw_state, ne_Proposer_saw__index, ne_Proposer_saw__count, ne_Proposer_saw__seen, ne_Proposer_saw__next_slot, ne_Proposer_saw__promises, ne_Proposer_saw__proposals, ne_Proposer_saw__voters, ne_Proposer_begin_ballot, ne_Proposer_begin_state, ne_Proposer_begin__index, ne_Proposer_begin__count, ne_Proposer_begin__seen, ne_Proposer_begin__next_slot, ne_Proposer_begin__promises, ne_Proposer_begin__proposals, ne_Proposer_begin__voters, ne_Proposer_hear_promise_ballot, ne_Proposer_hear_promise_state, ne_Proposer_hear_promise__index, ne_Proposer_hear_promise__count, ne_Proposer_hear_promise__seen, ne_Proposer_hear_promise__next_slot, ne_Proposer_hear_promise__promises, ne_Proposer_hear_promise__proposals, ne_Proposer_hear_promise__voters, ne_Proposer__open_accepted_ballot, ne_Proposer__open_accepted_state, ne_Proposer__open_accepted__index, ne_Proposer__open_accepted__count, ne_Proposer__open_accepted__seen, ne_Proposer__open_accepted__next_slot, ne_Proposer__open_accepted__promises, ne_Proposer__open_accepted__proposals, ne_Proposer__open_accepted__voters, ne_Proposer__promised_pairs_ballot, ne_Proposer__promised_pairs_state, ne_Proposer__promised_pairs__index, ne_Proposer__promised_pairs__count, ne_Proposer__promised_pairs__seen, ne_Proposer__promised_pairs__next_slot, ne_Proposer__promised_pairs__promises, ne_Proposer__promised_pairs__proposals, ne_Proposer__promised_pairs__voters, ne_Proposer_propose_ballot, ne_Proposer_propose_state, ne_Proposer_propose__index, ne_Proposer_propose__count, ne_Proposer_propose__seen, ne_Proposer_propose__next_slot, ne_Proposer_propose__promises, ne_Proposer_propose__proposals, ne_Proposer_propose__voters, ne_Proposer_hear_accepted_ballot, ne_Proposer_hear_accepted_state, ne_Proposer_hear_accepted__index, ne_Proposer_hear_accepted__count, ne_Proposer_hear_accepted__seen, ne_Proposer_hear_accepted__next_slot, ne_Proposer_hear_accepted__promises, ne_Proposer_hear_accepted__proposals, ne_Proposer_hear_accepted__voters, ne_Proposer_open_proposals_ballot, ne_Proposer_open_proposals_state, ne_Proposer_open_proposals__index, ne_Proposer_open_proposals__count, ne_Proposer_open_proposals__seen, ne_Proposer_open_proposals__next_slot, ne_Proposer_open_proposals__promises, ne_Proposer_open_proposals__proposals, ne_Proposer_open_proposals__voters, ne_Proposer_stop_ballot, ne_Proposer_stop_state, ne_Proposer_stop__index, ne_Proposer_stop__count, ne_Proposer_stop__seen, ne_Proposer_stop__next_slot, ne_Proposer_stop__promises, ne_Proposer_stop__proposals, ne_Proposer_stop__voters, ne_Proposer__forget_proposals_ballot, ne_Proposer__forget_proposals_state, ne_Proposer__forget_proposals__index, ne_Proposer__forget_proposals__count, ne_Proposer__forget_proposals__seen, ne_Proposer__forget_proposals__next_slot, ne_Proposer__forget_proposals__promises, ne_Proposer__forget_proposals__proposals, ne_Proposer__forget_proposals__voters, ne_Proposer_ballot_state_p, ne_Proposer_ballot__index_p, ne_Proposer_ballot__count_p, ne_Proposer_ballot__seen_p, ne_Proposer_ballot__next_slot_p, ne_Proposer_ballot__promises_p, ne_Proposer_ballot__proposals_p, ne_Proposer_ballot__voters_p, ne_Proposer_state_ballot_p, ne_Proposer_state__index_p, ne_Proposer_state__count_p, ne_Proposer_state__seen_p, ne_Proposer_state__next_slot_p, ne_Proposer_state__promises_p, ne_Proposer_state__proposals_p, ne_Proposer_state__voters_p, ne_Proposer__index_ballot_p, ne_Proposer__index_state_p, ne_Proposer__index__count_p, ne_Proposer__index__seen_p, ne_Proposer__index__next_slot_p, ne_Proposer__index__promises_p, ne_Proposer__index__proposals_p, ne_Proposer__index__voters_p, ne_Proposer__count_ballot_p, ne_Proposer__count_state_p, ne_Proposer__count__index_p, ne_Proposer__count__seen_p, ne_Proposer__count__next_slot_p, ne_Proposer__count__promises_p, ne_Proposer__count__proposals_p, ne_Proposer__count__voters_p, ne_Proposer__seen_ballot_p, ne_Proposer__seen_state_p, ne_Proposer__seen__index_p, ne_Proposer__seen__count_p, ne_Proposer__seen__next_slot_p, ne_Proposer__seen__promises_p, ne_Proposer__seen__proposals_p, ne_Proposer__seen__voters_p, ne_Proposer__next_slot_ballot_p, ne_Proposer__next_slot_state_p, ne_Proposer__next_slot__index_p, ne_Proposer__next_slot__count_p, ne_Proposer__next_slot__seen_p, ne_Proposer__next_slot__promises_p, ne_Proposer__next_slot__proposals_p, ne_Proposer__next_slot__voters_p, ne_Proposer__promises_ballot_p, ne_Proposer__promises_state_p, ne_Proposer__promises__index_p, ne_Proposer__promises__count_p, ne_Proposer__promises__seen_p, ne_Proposer__promises__next_slot_p, ne_Proposer__promises__proposals_p, ne_Proposer__promises__voters_p, ne_Proposer__proposals_ballot_p, ne_Proposer__proposals_state_p, ne_Proposer__proposals__index_p, ne_Proposer__proposals__count_p, ne_Proposer__proposals__seen_p, ne_Proposer__proposals__next_slot_p, ne_Proposer__proposals__promises_p, ne_Proposer__proposals__voters_p, ne_Proposer__voters_ballot_p, ne_Proposer__voters_state_p, ne_Proposer__voters__index_p, ne_Proposer__voters__count_p, ne_Proposer__voters__seen_p, ne_Proposer__voters__next_slot_p, ne_Proposer__voters__promises_p, ne_Proposer__voters__proposals_p, ne_Proposer_saw_ballot_p, ne_Proposer_saw_state_p, ne_Proposer_saw__index_p, ne_Proposer_saw__count_p, ne_Proposer_saw__seen_p, ne_Proposer_saw__next_slot_p, ne_Proposer_saw__promises_p, ne_Proposer_saw__proposals_p, ne_Proposer_saw__voters_p, ne_Proposer_begin_ballot_p, ne_Proposer_begin_state_p, ne_Proposer_begin__index_p, ne_Proposer_begin__count_p, ne_Proposer_begin__seen_p, ne_Proposer_begin__next_slot_p, ne_Proposer_begin__promises_p, ne_Proposer_begin__proposals_p, ne_Proposer_begin__voters_p, ne_Proposer_hear_promise_ballot_p, ne_Proposer_hear_promise_state_p, ne_Proposer_hear_promise__index_p, ne_Proposer_hear_promise__count_p, ne_Proposer_hear_promise__seen_p, ne_Proposer_hear_promise__next_slot_p, ne_Proposer_hear_promise__promises_p, ne_Proposer_hear_promise__proposals_p, ne_Proposer_hear_promise__voters_p, ne_Proposer__open_accepted_ballot_p, ne_Proposer__open_accepted_state_p, ne_Proposer__open_accepted__index_p, ne_Proposer__open_accepted__count_p, ne_Proposer__open_accepted__seen_p, ne_Proposer__open_accepted__next_slot_p, ne_Proposer__open_accepted__promises_p, ne_Proposer__open_accepted__proposals_p, ne_Proposer__open_accepted__voters_p, ne_Proposer__promised_pairs_ballot_p, ne_Proposer__promised_pairs_state_p, ne_Proposer__promised_pairs__index_p, ne_Proposer__promised_pairs__count_p, ne_Proposer__promised_pairs__seen_p, ne_Proposer__promised_pairs__next_slot_p, ne_Proposer__promised_pairs__promises_p, ne_Proposer__promised_pairs__proposals_p, ne_Proposer__promised_pairs__voters_p, ne_Proposer_propose_ballot_p, ne_Proposer_propose_state_p, ne_Proposer_propose__index_p, ne_Proposer_propose__count_p, ne_Proposer_propose__seen_p, ne_Proposer_propose__next_slot_p, ne_Proposer_propose__promises_p, ne_Proposer_propose__proposals_p, ne_Proposer_propose__voters_p, ne_Proposer_hear_accepted_ballot_p, ne_Proposer_hear_accepted_state_p, ne_Proposer_hear_accepted__index_p, ne_Proposer_hear_accepted__count_p, ne_Proposer_hear_accepted__seen_p, ne_Proposer_hear_accepted__next_slot_p, ne_Proposer_hear_accepted__promises_p, ne_Proposer_hear_accepted__proposals_p, ne_Proposer_hear_accepted__voters_p, ne_Proposer_open_proposals_ballot_p, ne_Proposer_open_proposals_state_p, ne_Proposer_open_proposals__index_p, ne_Proposer_open_proposals__count_p, ne_Proposer_open_proposals__seen_p, ne_Proposer_open_proposals__next_slot_p, ne_Proposer_open_proposals__promises_p, ne_Proposer_open_proposals__proposals_p, ne_Proposer_open_proposals__voters_p, ne_Proposer_stop_ballot_p, ne_Proposer_stop_state_p, ne_Proposer_stop__index_p, ne_Proposer_stop__count_p, ne_Proposer_stop__seen_p, ne_Proposer_stop__next_slot_p, ne_Proposer_stop__promises_p, ne_Proposer_stop__proposals_p, ne_Proposer_stop__voters_p, ne_Proposer__forget_proposals_ballot_p, ne_Proposer__forget_proposals_state_p, ne_Proposer__forget_proposals__index_p, ne_Proposer__forget_proposals__count_p, ne_Proposer__forget_proposals__seen_p, ne_Proposer__forget_proposals__next_slot_p, ne_Proposer__forget_proposals__promises_p, ne_Proposer__forget_proposals__proposals_p, ne_Proposer__forget_proposals__voters_p]
theorem pf_Proposer_state {v0 v1 v2 v3 v4 v5 v6 v7 v8 x : V} : putF ("state" : Str) x (fl_Proposer v0 v1 v2 v3 v4 v5 v6 v7 v8) = fl_Proposer v0 x v2 v3 v4 v5 v6 v7 v8 := by unfold fl_Proposer; simp [putF, ne_Proposer_ballot_state, ne_Proposer_ballot__index, ne_Proposer_ballot__count, ne_Proposer_ballot__seen, ne_Proposer_ballot__next_slot, ne_Proposer_ballot__promises, ne_Proposer_ballot__proposals, ne_Proposer_ballot__voters, ne_Proposer_state_ballot, ne_Proposer_state__index, ne_Proposer_state__count, ne_Proposer_state__seen, ne_Proposer_state__next_slot, ne_Proposer_state__promises, ne_Proposer_state__proposals, ne_Proposer_state__voters, ne_Proposer__index_ballot, ne_Proposer__index_state, ne_Proposer__index__count, ne_Proposer__index__seen, ne_Proposer__index__next_slot, ne_Proposer__index__promises, ne_Proposer__index__proposals, ne_Proposer__index__voters, ne_Proposer__count_ballot, ne_Proposer__count_state, ne_Proposer__count__index, ne_Proposer__count__seen, ne_Proposer__count__next_slot, ne_Proposer__count__promises, ne_Proposer__count__proposals, ne_Proposer__count__voters, ne_Proposer__seen_ballot, ne_Proposer__seen_state, ne_Proposer__seen__index, ne_Proposer__seen__count, ne_Proposer__seen__next_slot, ne_Proposer__seen__promises, ne_Proposer__seen__proposals, ne_Proposer__seen__voters, ne_Proposer__next_slot_ballot, ne_Proposer__next_slot_state, ne_Proposer__next_slot__index, ne_Proposer__next_slot__count, ne_Proposer__next_slot__seen, ne_Proposer__next_slot__promises, ne_Proposer__next_slot__proposals, ne_Proposer__next_slot__voters, ne_Proposer__promises_ballot, ne_Proposer__promises_state, ne_Proposer__promises__index, ne_Proposer__promises__count, ne_Proposer__promises__seen, ne_Proposer__promises__next_slot, ne_Proposer__promises__proposals, ne_Proposer__promises__voters, ne_Proposer__proposals_ballot, ne_Proposer__proposals_state, ne_Proposer__proposals__index, ne_Proposer__proposals__count, ne_Proposer__proposals__seen, ne_Proposer__proposals__next_slot, ne_Proposer__proposals__promises, ne_Proposer__proposals__voters, ne_Proposer__voters_ballot, ne_Proposer__voters_state, ne_Proposer__voters__index, ne_Proposer__voters__count, ne_Proposer__voters__seen, ne_Proposer__voters__next_slot, ne_Proposer__voters__promises, ne_Proposer__voters__proposals, ne_Proposer_saw_ballot, ne_Proposer_saw_state, ne_Proposer_saw__index, ne_Proposer_saw__count, ne_Proposer_saw__seen, ne_Proposer_saw__next_slot, ne_Proposer_saw__promises, ne_Proposer_saw__proposals, ne_Proposer_saw__voters, ne_Proposer_begin_ballot, ne_Proposer_begin_state, ne_Proposer_begin__index, ne_Proposer_begin__count, ne_Proposer_begin__seen, ne_Proposer_begin__next_slot, ne_Proposer_begin__promises, ne_Proposer_begin__proposals, ne_Proposer_begin__voters, ne_Proposer_hear_promise_ballot, ne_Proposer_hear_promise_state, ne_Proposer_hear_promise__index, ne_Proposer_hear_promise__count, ne_Proposer_hear_promise__seen, ne_Proposer_hear_promise__next_slot, ne_Proposer_hear_promise__promises, ne_Proposer_hear_promise__proposals, ne_Proposer_hear_promise__voters, ne_Proposer__open_accepted_ballot, ne_Proposer__open_accepted_state, ne_Proposer__open_accepted__index, ne_Proposer__open_accepted__count, ne_Proposer__open_accepted__seen, ne_Proposer__open_accepted__next_slot, ne_Proposer__open_accepted__promises, ne_Proposer__open_accepted__proposals, ne_Proposer__open_accepted__voters, ne_Proposer__promised_pairs_ballot, ne_Proposer__promised_pairs_state, ne_Proposer__promised_pairs__index, ne_Proposer__promised_pairs__count, ne_Proposer__promised_pairs__seen, ne_Proposer__promised_pairs__next_slot, ne_Proposer__promised_pairs__promises, ne_Proposer__promised_pairs__proposals, ne_Proposer__promised_pairs__voters, ne_Proposer_propose_ballot, ne_Proposer_propose_state, ne_Proposer_propose__index, ne_Proposer_propose__count, ne_Proposer_propose__seen, ne_Proposer_propose__next_slot, ne_Proposer_propose__promises, ne_Proposer_propose__proposals, ne_Proposer_propose__voters, ne_Proposer_hear_accepted_ballot, ne_Proposer_hear_accepted_state, ne_Proposer_hear_accepted__index, ne_Proposer_hear_accepted__count, ne_Proposer_hear_accepted__seen, ne_Proposer_hear_accepted__next_slot, ne_Proposer_hear_accepted__promises, ne_Proposer_hear_accepted__proposals, ne_Proposer_hear_accepted__voters, ne_Proposer_open_proposals_ballot, ne_Proposer_open_proposals_state, ne_Proposer_open_proposals__index, ne_Proposer_open_proposals__count, ne_Proposer_open_proposals__seen, ne_Proposer_open_proposals__next_slot, ne_Proposer_open_proposals__promises, ne_Proposer_open_proposals__proposals, ne_Proposer_open_proposals__voters, ne_Proposer_stop_ballot, ne_Proposer_stop_state, ne_Proposer_stop__index, ne_Proposer_stop__count, ne_Proposer_stop__seen, ne_Proposer_stop__next_slot, ne_Proposer_stop__promises, ne_Proposer_stop__proposals, ne_Proposer_stop__voters, ne_Proposer__forget_proposals_ballot, ne_Proposer__forget_proposals_state, ne_Proposer__forget_proposals__index, ne_Proposer__forget_proposals__count, ne_Proposer__forget_proposals__seen, ne_Proposer__forget_proposals__next_slot, ne_Proposer__forget_proposals__promises, ne_Proposer__forget_proposals__proposals, ne_Proposer__forget_proposals__voters, ne_Proposer_ballot_state_p, ne_Proposer_ballot__index_p, ne_Proposer_ballot__count_p, ne_Proposer_ballot__seen_p, ne_Proposer_ballot__next_slot_p, ne_Proposer_ballot__promises_p, ne_Proposer_ballot__proposals_p, ne_Proposer_ballot__voters_p, ne_Proposer_state_ballot_p, ne_Proposer_state__index_p, ne_Proposer_state__count_p, ne_Proposer_state__seen_p, ne_Proposer_state__next_slot_p, ne_Proposer_state__promises_p, ne_Proposer_state__proposals_p, ne_Proposer_state__voters_p, ne_Proposer__index_ballot_p, ne_Proposer__index_state_p, ne_Proposer__index__count_p, ne_Proposer__index__seen_p, ne_Proposer__index__next_slot_p, ne_Proposer__index__promises_p, ne_Proposer__index__proposals_p, ne_Proposer__index__voters_p, ne_Proposer__count_ballot_p, ne_Proposer__count_state_p, ne_Proposer__count__index_p, ne_Proposer__count__seen_p, ne_Proposer__count__next_slot_p, ne_Proposer__count__promises_p, ne_Proposer__count__proposals_p, ne_Proposer__count__voters_p, ne_Proposer__seen_ballot_p, ne_Proposer__seen_state_p, ne_Proposer__seen__index_p, ne_Proposer__seen__count_p, ne_Proposer__seen__next_slot_p, ne_Proposer__seen__promises_p, ne_Proposer__seen__proposals_p, ne_Proposer__seen__voters_p, ne_Proposer__next_slot_ballot_p, ne_Proposer__next_slot_state_p, ne_Proposer__next_slot__index_p, ne_Proposer__next_slot__count_p, ne_Proposer__next_slot__seen_p, ne_Proposer__next_slot__promises_p, ne_Proposer__next_slot__proposals_p, ne_Proposer__next_slot__voters_p, ne_Proposer__promises_ballot_p, ne_Proposer__promises_state_p, ne_Proposer__promises__index_p, ne_Proposer__promises__count_p, ne_Proposer__promises__seen_p, ne_Proposer__promises__next_slot_p, ne_Proposer__promises__proposals_p, ne_Proposer__promises__voters_p, ne_Proposer__proposals_ballot_p, ne_Proposer__proposals_state_p, ne_Proposer__proposals__index_p, ne_Proposer__proposals__count_p, ne_Proposer__proposals__seen_p, ne_Proposer__proposals__next_slot_p, ne_Proposer__proposals__promises_p, ne_Proposer__proposals__voters_p, ne_Proposer__voters_ballot_p, ne_Proposer__voters_state_p, ne_Proposer__voters__index_p, ne_Proposer__voters__count_p, ne_Proposer__voters__seen_p, ne_Proposer__voters__next_slot_p, ne_Proposer__voters__promises_p, ne_Proposer__voters__proposals_p, ne_Proposer_saw_ballot_p, ne_Proposer_saw_state_p, ne_Proposer_saw__index_p, ne_Proposer_saw__count_p, ne_Proposer_saw__seen_p, ne_Proposer_saw__next_slot_p, ne_Proposer_saw__promises_p, ne_Proposer_saw__proposals_p, ne_Proposer_saw__voters_p, ne_Proposer_begin_ballot_p, ne_Proposer_begin_state_p, ne_Proposer_begin__index_p, ne_Proposer_begin__count_p, ne_Proposer_begin__seen_p, ne_Proposer_begin__next_slot_p, ne_Proposer_begin__promises_p, ne_Proposer_begin__proposals_p, ne_Proposer_begin__voters_p, ne_Proposer_hear_promise_ballot_p, ne_Proposer_hear_promise_state_p, ne_Proposer_hear_promise__index_p, ne_Proposer_hear_promise__count_p, ne_Proposer_hear_promise__seen_p, ne_Proposer_hear_promise__next_slot_p, ne_Proposer_hear_promise__promises_p, ne_Proposer_hear_promise__proposals_p, ne_Proposer_hear_promise__voters_p, ne_Proposer__open_accepted_ballot_p, ne_Proposer__open_accepted_state_p, ne_Proposer__open_accepted__index_p, ne_Proposer__open_accepted__count_p, ne_Proposer__open_accepted__seen_p, ne_Proposer__open_accepted__next_slot_p, ne_Proposer__open_accepted__promises_p, ne_Proposer__open_accepted__proposals_p, ne_Proposer__open_accepted__voters_p, ne_Proposer__promised_pairs_ballot_p, ne_Proposer__promised_pairs_state_p, ne_Proposer__promised_pairs__index_p, ne_Proposer__promised_pairs__count_p, ne_Proposer__promised_pairs__seen_p, ne_Proposer__promised_pairs__next_slot_p, ne_Proposer__promised_pairs__promises_p, ne_Proposer__promised_pairs__proposals_p, ne_Proposer__promised_pairs__voters_p, ne_Proposer_propose_ballot_p, ne_Proposer_propose_state_p, ne_Proposer_propose__index_p, ne_Proposer_propose__count_p, ne_Proposer_propose__seen_p, ne_Proposer_propose__next_slot_p, ne_Proposer_propose__promises_p, ne_Proposer_propose__proposals_p, ne_Proposer_propose__voters_p, ne_Proposer_hear_accepted_ballot_p, ne_Proposer_hear_accepted_state_p, ne_Proposer_hear_accepted__index_p, ne_Proposer_hear_accepted__count_p, ne_Proposer_hear_accepted__seen_p, ne_Proposer_hear_accepted__next_slot_p, ne_Proposer_hear_accepted__promises_p, ne_Proposer_hear_accepted__proposals_p, ne_Proposer_hear_accepted__voters_p, ne_Proposer_open_proposals_ballot_p, ne_Proposer_open_proposals_state_p, ne_Proposer_open_proposals__index_p, ne_Proposer_open_proposals__count_p, ne_Proposer_open_proposals__seen_p, ne_Proposer_open_proposals__next_slot_p, ne_Proposer_open_proposals__promises_p, ne_Proposer_open_proposals__proposals_p, ne_Proposer_open_proposals__voters_p, ne_Proposer_stop_ballot_p, ne_Proposer_stop_state_p, ne_Proposer_stop__index_p, ne_Proposer_stop__count_p, ne_Proposer_stop__seen_p, ne_Proposer_stop__next_slot_p, ne_Proposer_stop__promises_p, ne_Proposer_stop__proposals_p, ne_Proposer_stop__voters_p, ne_Proposer__forget_proposals_ballot_p, ne_Proposer__forget_proposals_state_p, ne_Proposer__forget_proposals__index_p, ne_Proposer__forget_proposals__count_p, ne_Proposer__forget_proposals__seen_p, ne_Proposer__forget_proposals__next_slot_p, ne_Proposer__forget_proposals__promises_p, ne_Proposer__forget_proposals__proposals_p, ne_Proposer__forget_proposals__voters_p]
theorem fl_Proposer__index {v0 v1 v2 v3 v4 v5 v6 v7 v8 : V} : (fl_Proposer v0 v1 v2 v3 v4 v5 v6 v7 v8).lookup ("_index" : Str) = some v2 := by unfold fl_Proposer; simp [List.lookup, ne_Proposer_ballot_state, ne_Proposer_ballot__index, ne_Proposer_ballot__count, ne_Proposer_ballot__seen, ne_Proposer_ballot__next_slot, ne_Proposer_ballot__promises, ne_Proposer_ballot__proposals, ne_Proposer_ballot__voters, ne_Proposer_state_ballot, ne_Proposer_state__index, ne_Proposer_state__count, ne_Proposer_state__seen, ne_Proposer_state__next_slot, ne_Proposer_state__promises, ne_Proposer_state__proposals, ne_Proposer_state__voters, ne_Proposer__index_ballot, ne_Proposer__index_state, ne_Proposer__index__count, ne_Proposer__index__seen, ne_Proposer__index__next_slot, ne_Proposer__index__promises, ne_Proposer__index__proposals, ne_Proposer__index__voters, ne_Proposer__count_ballot, ne_Proposer__count_state, ne_Proposer__count__index, ne_Proposer__count__seen, ne_Proposer__count__next_slot, ne_Proposer__count__promises, ne_Proposer__count__proposals, ne_Proposer__count__voters, ne_Proposer__seen_ballot, ne_Proposer__seen_state, ne_Proposer__seen__index, ne_Proposer__seen__count, ne_Proposer__seen__next_slot, ne_Proposer__seen__promises, ne_Proposer__seen__proposals, ne_Proposer__seen__voters, ne_Proposer__next_slot_ballot, ne_Proposer__next_slot_state, ne_Proposer__next_slot__index, ne_Proposer__next_slot__count, ne_Proposer__next_slot__seen, ne_Proposer__next_slot__promises, ne_Proposer__next_slot__proposals, ne_Proposer__next_slot__voters, ne_Proposer__promises_ballot, ne_Proposer__promises_state, ne_Proposer__promises__index, ne_Proposer__promises__count, ne_Proposer__promises__seen, ne_Proposer__promises__next_slot, ne_Proposer__promises__proposals, ne_Proposer__promises__voters, ne_Proposer__proposals_ballot, ne_Proposer__proposals_state, ne_Proposer__proposals__index, ne_Proposer__proposals__count, ne_Proposer__proposals__seen, ne_Proposer__proposals__next_slot, ne_Proposer__proposals__promises, ne_Proposer__proposals__voters, ne_Proposer__voters_ballot, ne_Proposer__voters_state, ne_Proposer__voters__index, ne_Proposer__voters__count, ne_Proposer__voters__seen, ne_Proposer__voters__next_slot, ne_Proposer__voters__promises, ne_Proposer__voters__proposals, ne_Proposer_saw_ballot, ne_Proposer_saw_state, ne_Proposer_saw__index, ne_Proposer_saw__count, ne_Proposer_saw__seen, ne_Proposer_saw__next_slot, ne_Proposer_saw__promises, ne_Proposer_saw__proposals, ne_Proposer_saw__voters, ne_Proposer_begin_ballot, ne_Proposer_begin_state, ne_Proposer_begin__index, ne_Proposer_begin__count, ne_Proposer_begin__seen, ne_Proposer_begin__next_slot, ne_Proposer_begin__promises, ne_Proposer_begin__proposals, ne_Proposer_begin__voters, ne_Proposer_hear_promise_ballot, ne_Proposer_hear_promise_state, ne_Proposer_hear_promise__index, ne_Proposer_hear_promise__count, ne_Proposer_hear_promise__seen, ne_Proposer_hear_promise__next_slot, ne_Proposer_hear_promise__promises, ne_Proposer_hear_promise__proposals, ne_Proposer_hear_promise__voters, ne_Proposer__open_accepted_ballot, ne_Proposer__open_accepted_state, ne_Proposer__open_accepted__index, ne_Proposer__open_accepted__count, ne_Proposer__open_accepted__seen, ne_Proposer__open_accepted__next_slot, ne_Proposer__open_accepted__promises, ne_Proposer__open_accepted__proposals, ne_Proposer__open_accepted__voters, ne_Proposer__promised_pairs_ballot, ne_Proposer__promised_pairs_state, ne_Proposer__promised_pairs__index, ne_Proposer__promised_pairs__count, ne_Proposer__promised_pairs__seen, ne_Proposer__promised_pairs__next_slot, ne_Proposer__promised_pairs__promises, ne_Proposer__promised_pairs__proposals, ne_Proposer__promised_pairs__voters, ne_Proposer_propose_ballot, ne_Proposer_propose_state, ne_Proposer_propose__index, ne_Proposer_propose__count, ne_Proposer_propose__seen, ne_Proposer_propose__next_slot, ne_Proposer_propose__promises, ne_Proposer_propose__proposals, ne_Proposer_propose__voters, ne_Proposer_hear_accepted_ballot, ne_Proposer_hear_accepted_state, ne_Proposer_hear_accepted__index, ne_Proposer_hear_accepted__count, ne_Proposer_hear_accepted__seen, ne_Proposer_hear_accepted__next_slot, ne_Proposer_hear_accepted__promises, ne_Proposer_hear_accepted__proposals, ne_Proposer_hear_accepted__voters, ne_Proposer_open_proposals_ballot, ne_Proposer_open_proposals_state, ne_Proposer_open_proposals__index, ne_Proposer_open_proposals__count, ne_Proposer_open_proposals__seen, ne_Proposer_open_proposals__next_slot, ne_Proposer_open_proposals__promises, ne_Proposer_open_proposals__proposals, ne_Proposer_open_proposals__voters, ne_Proposer_stop_ballot, ne_Proposer_stop_state, ne_Proposer_stop__index, ne_Proposer_stop__count, ne_Proposer_stop__seen, ne_Proposer_stop__next_slot, ne_Proposer_stop__promises, ne_Proposer_stop__proposals, ne_Proposer_stop__voters, ne_Proposer__forget_proposals_ballot, ne_Proposer__forget_proposals_state, ne_Proposer__forget_proposals__index, ne_Proposer__forget_proposals__count, ne_Proposer__forget_proposals__seen, ne_Proposer__forget_proposals__next_slot, ne_Proposer__forget_proposals__promises, ne_Proposer__forget_proposals__proposals, ne_Proposer__forget_proposals__voters, ne_Proposer_ballot_state_p, ne_Proposer_ballot__index_p, ne_Proposer_ballot__count_p, ne_Proposer_ballot__seen_p, ne_Proposer_ballot__next_slot_p, ne_Proposer_ballot__promises_p, ne_Proposer_ballot__proposals_p, ne_Proposer_ballot__voters_p, ne_Proposer_state_ballot_p, ne_Proposer_state__index_p, ne_Proposer_state__count_p, ne_Proposer_state__seen_p, ne_Proposer_state__next_slot_p, ne_Proposer_state__promises_p, ne_Proposer_state__proposals_p, ne_Proposer_state__voters_p, ne_Proposer__index_ballot_p, ne_Proposer__index_state_p, ne_Proposer__index__count_p, ne_Proposer__index__seen_p, ne_Proposer__index__next_slot_p, ne_Proposer__index__promises_p, ne_Proposer__index__proposals_p, ne_Proposer__index__voters_p, ne_Proposer__count_ballot_p, ne_Proposer__count_state_p, ne_Proposer__count__index_p, ne_Proposer__count__seen_p, ne_Proposer__count__next_slot_p, ne_Proposer__count__promises_p, ne_Proposer__count__proposals_p, ne_Proposer__count__voters_p, ne_Proposer__seen_ballot_p, ne_Proposer__seen_state_p, ne_Proposer__seen__index_p, ne_Proposer__seen__count_p, ne_Proposer__seen__next_slot_p, ne_Proposer__seen__promises_p, ne_Proposer__seen__proposals_p, ne_Proposer__seen__voters_p, ne_Proposer__next_slot_ballot_p, ne_Proposer__next_slot_state_p, ne_Proposer__next_slot__index_p, ne_Proposer__next_slot__count_p, ne_Proposer__next_slot__seen_p, ne_Proposer__next_slot__promises_p, ne_Proposer__next_slot__proposals_p, ne_Proposer__next_slot__voters_p, ne_Proposer__promises_ballot_p, ne_Proposer__promises_state_p, ne_Proposer__promises__index_p, ne_Proposer__promises__count_p, ne_Proposer__promises__seen_p, ne_Proposer__promises__next_slot_p, ne_Proposer__promises__proposals_p, ne_Proposer__promises__voters_p, ne_Proposer__proposals_ballot_p, ne_Proposer__proposals_state_p, ne_Proposer__proposals__index_p, ne_Proposer__proposals__count_p, ne_Proposer__proposals__seen_p, ne_Proposer__proposals__next_slot_p, ne_Proposer__proposals__promises_p, ne_Proposer__proposals__voters_p, ne_Proposer__voters_ballot_p, ne_Proposer__voters_state_p, ne_Proposer__voters__index_p, ne_Proposer__voters__count_p, ne_Proposer__voters__seen_p, ne_Proposer__voters__next_slot_p, ne_Proposer__voters__promises_p, ne_Proposer__voters__proposals_p, ne_Proposer_saw_ballot_p, ne_Proposer_saw_state_p, ne_Proposer_saw__index_p, ne_Proposer_saw__count_p, ne_Proposer_saw__seen_p, ne_Proposer_saw__next_slot_p, ne_Proposer_saw__promises_p, ne_Proposer_saw__proposals_p, ne_Proposer_saw__voters_p, ne_Proposer_begin_ballot_p, ne_Proposer_begin_state_p, ne_Proposer_begin__index_p, ne_Proposer_begin__count_p, ne_Proposer_begin__seen_p, ne_Proposer_begin__next_slot_p, ne_Proposer_begin__promises_p, ne_Proposer_begin__proposals_p, ne_Proposer_begin__voters_p, ne_Proposer_hear_promise_ballot_p, ne_Proposer_hear_promise_state_p, ne_Proposer_hear_promise__index_p, ne_Proposer_hear_promise__count_p, ne_Proposer_hear_promise__seen_p, ne_Proposer_hear_promise__next_slot_p, ne_Proposer_hear_promise__promises_p, ne_Proposer_hear_promise__proposals_p, ne_Proposer_hear_promise__voters_p, ne_Proposer__open_accepted_ballot_p, ne_Proposer__open_accepted_state_p, ne_Proposer__open_accepted__index_p, ne_Proposer__open_accepted__count_p, ne_Proposer__open_accepted__seen_p, ne_Proposer__open_accepted__next_slot_p, ne_Proposer__open_accepted__promises_p, ne_Proposer__open_accepted__proposals_p, ne_Proposer__open_accepted__voters_p, ne_Proposer__promised_pairs_ballot_p, ne_Proposer__promised_pairs_state_p, ne_Proposer__promised_pairs__index_p, ne_Proposer__promised_pairs__count_p, ne_Proposer__promised_pairs__seen_p, ne_Proposer__promised_pairs__next_slot_p, ne_Proposer__promised_pairs__promises_p, ne_Proposer__promised_pairs__proposals_p, ne_Proposer__promised_pairs__voters_p, ne_Proposer_propose_ballot_p, ne_Proposer_propose_state_p, ne_Proposer_propose__index_p, ne_Proposer_propose__count_p, ne_Proposer_propose__seen_p, ne_Proposer_propose__next_slot_p, ne_Proposer_propose__promises_p, ne_Proposer_propose__proposals_p, ne_Proposer_propose__voters_p, ne_Proposer_hear_accepted_ballot_p, ne_Proposer_hear_accepted_state_p, ne_Proposer_hear_accepted__index_p, ne_Proposer_hear_accepted__count_p, ne_Proposer_hear_accepted__seen_p, ne_Proposer_hear_accepted__next_slot_p, ne_Proposer_hear_accepted__promises_p, ne_Proposer_hear_accepted__proposals_p, ne_Proposer_hear_accepted__voters_p, ne_Proposer_open_proposals_ballot_p, ne_Proposer_open_proposals_state_p, ne_Proposer_open_proposals__index_p, ne_Proposer_open_proposals__count_p, ne_Proposer_open_proposals__seen_p, ne_Proposer_open_proposals__next_slot_p, ne_Proposer_open_proposals__promises_p, ne_Proposer_open_proposals__proposals_p, ne_Proposer_open_proposals__voters_p, ne_Proposer_stop_ballot_p, ne_Proposer_stop_state_p, ne_Proposer_stop__index_p, ne_Proposer_stop__count_p, ne_Proposer_stop__seen_p, ne_Proposer_stop__next_slot_p, ne_Proposer_stop__promises_p, ne_Proposer_stop__proposals_p, ne_Proposer_stop__voters_p, ne_Proposer__forget_proposals_ballot_p, ne_Proposer__forget_proposals_state_p, ne_Proposer__forget_proposals__index_p, ne_Proposer__forget_proposals__count_p, ne_Proposer__forget_proposals__seen_p, ne_Proposer__forget_proposals__next_slot_p, ne_Proposer__forget_proposals__promises_p, ne_Proposer__forget_proposals__proposals_p, ne_Proposer__forget_proposals__voters_p]
theorem pf_Proposer__index {v0 v1 v2 v3 v4 v5 v6 v7 v8 x : V} : putF ("_index" : Str) x (fl_Proposer v0 v1 v2 v3 v4 v5 v6 v7 v8) = fl_Proposer v0 v1 x v3 v4 v5 v6 v7 v8 := by unfold fl_Proposer; simp [putF, ne_Proposer_ballot_state, ne_Proposer_ballot__index, ne_Proposer_ballot__count, ne_Proposer_ballot__seen, ne_Proposer_ballot__next_slot, ne_Proposer_ballot__promises, ne_Proposer_ballot__proposals, ne_Proposer_ballot__voters, ne_Proposer_state_ballot, ne_Proposer_state__index, ne_Proposer_state__count, ne_Proposer_state__seen, ne_Proposer_state__next_slot, ne_Proposer_state__promises, ne_Proposer_state__proposals, ne_Proposer_state__voters, ne_Proposer__index_ballot, ne_Proposer__index_state, ne_Proposer__index__count, ne_Proposer__index__seen, ne_Proposer__index__next_slot, ne_Proposer__index__promises, ne_Proposer__index__proposals, ne_Proposer__index__voters, ne_Proposer__count_ballot, ne_Proposer__count_state, ne_Proposer__count__index, ne_Proposer__count__seen, ne_Proposer__count__next_slot, ne_Proposer__count__promises, ne_Proposer__count__proposals, ne_Proposer__count__voters, ne_Proposer__seen_ballot, ne_Proposer__seen_state, ne_Proposer__seen__index, ne_Proposer__seen__count, ne_Proposer__seen__next_slot, ne_Proposer__seen__promises, ne_Proposer__seen__proposals, ne_Proposer__seen__voters, ne_Proposer__next_slot_ballot, ne_Proposer__next_slot_state, ne_Proposer__next_slot__index, ne_Proposer__next_slot__count, ne_Proposer__next_slot__seen, ne_Proposer__next_slot__promises, ne_Proposer__next_slot__proposals, ne_Proposer__next_slot__voters, ne_Proposer__promises_ballot, ne_Proposer__promises_state, ne_Proposer__promises__index, ne_Proposer__promises__count, ne_Proposer__promises__seen, ne_Proposer__promises__next_slot, ne_Proposer__promises__proposals, ne_Proposer__promises__voters, ne_Proposer__proposals_ballot, ne_Proposer__proposals_state, ne_Proposer__proposals__index, ne_Proposer__proposals__count, ne_Proposer__proposals__seen, ne_Proposer__proposals__next_slot, ne_Proposer__proposals__promises, ne_Proposer__proposals__voters, ne_Proposer__voters_ballot, ne_Proposer__voters_state, ne_Proposer__voters__index, ne_Proposer__voters__count, ne_Proposer__voters__seen, ne_Proposer__voters__next_slot, ne_Proposer__voters__promises, ne_Proposer__voters__proposals, ne_Proposer_saw_ballot, ne_Proposer_saw_state, ne_Proposer_saw__index, ne_Proposer_saw__count, ne_Proposer_saw__seen, ne_Proposer_saw__next_slot, ne_Proposer_saw__promises, ne_Proposer_saw__proposals, ne_Proposer_saw__voters, ne_Proposer_begin_ballot, ne_Proposer_begin_state, ne_Proposer_begin__index, ne_Proposer_begin__count, ne_Proposer_begin__seen, ne_Proposer_begin__next_slot, ne_Proposer_begin__promises, ne_Proposer_begin__proposals, ne_Proposer_begin__voters, ne_Proposer_hear_promise_ballot, ne_Proposer_hear_promise_state, ne_Proposer_hear_promise__index, ne_Proposer_hear_promise__count, ne_Proposer_hear_promise__seen, ne_Proposer_hear_promise__next_slot, ne_Proposer_hear_promise__promises, ne_Proposer_hear_promise__proposals, ne_Proposer_hear_promise__voters, ne_Proposer__open_accepted_ballot, ne_Proposer__open_accepted_state, ne_Proposer__open_accepted__index, ne_Proposer__open_accepted__count, ne_Proposer__open_accepted__seen, ne_Proposer__open_accepted__next_slot, ne_Proposer__open_accepted__promises, ne_Proposer__open_accepted__proposals, ne_Proposer__open_accepted__voters, ne_Proposer__promised_pairs_ballot, ne_Proposer__promised_pairs_state, ne_Proposer__promised_pairs__index, ne_Proposer__promised_pairs__count, ne_Proposer__promised_pairs__seen, ne_Proposer__promised_pairs__next_slot, ne_Proposer__promised_pairs__promises, ne_Proposer__promised_pairs__proposals, ne_Proposer__promised_pairs__voters, ne_Proposer_propose_ballot, ne_Proposer_propose_state, ne_Proposer_propose__index, ne_Proposer_propose__count, ne_Proposer_propose__seen, ne_Proposer_propose__next_slot, ne_Proposer_propose__promises, ne_Proposer_propose__proposals, ne_Proposer_propose__voters, ne_Proposer_hear_accepted_ballot, ne_Proposer_hear_accepted_state, ne_Proposer_hear_accepted__index, ne_Proposer_hear_accepted__count, ne_Proposer_hear_accepted__seen, ne_Proposer_hear_accepted__next_slot, ne_Proposer_hear_accepted__promises, ne_Proposer_hear_accepted__proposals, ne_Proposer_hear_accepted__voters, ne_Proposer_open_proposals_ballot, ne_Proposer_open_proposals_state, ne_Proposer_open_proposals__index, ne_Proposer_open_proposals__count, ne_Proposer_open_proposals__seen, ne_Proposer_open_proposals__next_slot, ne_Proposer_open_proposals__promises, ne_Proposer_open_proposals__proposals, ne_Proposer_open_proposals__voters, ne_Proposer_stop_ballot, ne_Proposer_stop_state, ne_Proposer_stop__index, ne_Proposer_stop__count, ne_Proposer_stop__seen, ne_Proposer_stop__next_slot, ne_Proposer_stop__promises, ne_Proposer_stop__proposals, ne_Proposer_stop__voters, ne_Proposer__forget_proposals_ballot, ne_Proposer__forget_proposals_state, ne_Proposer__forget_proposals__index, ne_Proposer__forget_proposals__count, ne_Proposer__forget_proposals__seen, ne_Proposer__forget_proposals__next_slot, ne_Proposer__forget_proposals__promises, ne_Proposer__forget_proposals__proposals, ne_Proposer__forget_proposals__voters, ne_Proposer_ballot_state_p, ne_Proposer_ballot__index_p, ne_Proposer_ballot__count_p, ne_Proposer_ballot__seen_p, ne_Proposer_ballot__next_slot_p, ne_Proposer_ballot__promises_p, ne_Proposer_ballot__proposals_p, ne_Proposer_ballot__voters_p, ne_Proposer_state_ballot_p, ne_Proposer_state__index_p, ne_Proposer_state__count_p, ne_Proposer_state__seen_p, ne_Proposer_state__next_slot_p, ne_Proposer_state__promises_p, ne_Proposer_state__proposals_p, ne_Proposer_state__voters_p, ne_Proposer__index_ballot_p, ne_Proposer__index_state_p, ne_Proposer__index__count_p, ne_Proposer__index__seen_p, ne_Proposer__index__next_slot_p, ne_Proposer__index__promises_p, ne_Proposer__index__proposals_p, ne_Proposer__index__voters_p, ne_Proposer__count_ballot_p, ne_Proposer__count_state_p, ne_Proposer__count__index_p, ne_Proposer__count__seen_p, ne_Proposer__count__next_slot_p, ne_Proposer__count__promises_p, ne_Proposer__count__proposals_p, ne_Proposer__count__voters_p, ne_Proposer__seen_ballot_p, ne_Proposer__seen_state_p, ne_Proposer__seen__index_p, ne_Proposer__seen__count_p, ne_Proposer__seen__next_slot_p, ne_Proposer__seen__promises_p, ne_Proposer__seen__proposals_p, ne_Proposer__seen__voters_p, ne_Proposer__next_slot_ballot_p, ne_Proposer__next_slot_state_p, ne_Proposer__next_slot__index_p, ne_Proposer__next_slot__count_p, ne_Proposer__next_slot__seen_p, ne_Proposer__next_slot__promises_p, ne_Proposer__next_slot__proposals_p, ne_Proposer__next_slot__voters_p, ne_Proposer__promises_ballot_p, ne_Proposer__promises_state_p, ne_Proposer__promises__index_p, ne_Proposer__promises__count_p, ne_Proposer__promises__seen_p, ne_Proposer__promises__next_slot_p, ne_Proposer__promises__proposals_p, ne_Proposer__promises__voters_p, ne_Proposer__proposals_ballot_p, ne_Proposer__proposals_state_p, ne_Proposer__proposals__index_p, ne_Proposer__proposals__count_p, ne_Proposer__proposals__seen_p, ne_Proposer__proposals__next_slot_p, ne_Proposer__proposals__promises_p, ne_Proposer__proposals__voters_p, ne_Proposer__voters_ballot_p, ne_Proposer__voters_state_p, ne_Proposer__voters__index_p, ne_Proposer__voters__count_p, ne_Proposer__voters__seen_p, ne_Proposer__voters__next_slot_p, ne_Proposer__voters__promises_p, ne_Proposer__voters__proposals_p, ne_Proposer_saw_ballot_p, ne_Proposer_saw_state_p, ne_Proposer_saw__index_p, ne_Proposer_saw__count_p, ne_Proposer_saw__seen_p, ne_Proposer_saw__next_slot_p, ne_Proposer_saw__promises_p, ne_Proposer_saw__proposals_p, ne_Proposer_saw__voters_p, ne_Proposer_begin_ballot_p, ne_Proposer_begin_state_p, ne_Proposer_begin__index_p, ne_Proposer_begin__count_p, ne_Proposer_begin__seen_p, ne_Proposer_begin__next_slot_p, ne_Proposer_begin__promises_p, ne_Proposer_begin__proposals_p, ne_Proposer_begin__voters_p, ne_Proposer_hear_promise_ballot_p, ne_Proposer_hear_promise_state_p, ne_Proposer_hear_promise__index_p, ne_Proposer_hear_promise__count_p, ne_Proposer_hear_promise__seen_p, ne_Proposer_hear_promise__next_slot_p, ne_Proposer_hear_promise__promises_p, ne_Proposer_hear_promise__proposals_p, ne_Proposer_hear_promise__voters_p, ne_Proposer__open_accepted_ballot_p, ne_Proposer__open_accepted_state_p, ne_Proposer__open_accepted__index_p, ne_Proposer__open_accepted__count_p, ne_Proposer__open_accepted__seen_p, ne_Proposer__open_accepted__next_slot_p, ne_Proposer__open_accepted__promises_p, ne_Proposer__open_accepted__proposals_p, ne_Proposer__open_accepted__voters_p, ne_Proposer__promised_pairs_ballot_p, ne_Proposer__promised_pairs_state_p, ne_Proposer__promised_pairs__index_p, ne_Proposer__promised_pairs__count_p, ne_Proposer__promised_pairs__seen_p, ne_Proposer__promised_pairs__next_slot_p, ne_Proposer__promised_pairs__promises_p, ne_Proposer__promised_pairs__proposals_p, ne_Proposer__promised_pairs__voters_p, ne_Proposer_propose_ballot_p, ne_Proposer_propose_state_p, ne_Proposer_propose__index_p, ne_Proposer_propose__count_p, ne_Proposer_propose__seen_p, ne_Proposer_propose__next_slot_p, ne_Proposer_propose__promises_p, ne_Proposer_propose__proposals_p, ne_Proposer_propose__voters_p, ne_Proposer_hear_accepted_ballot_p, ne_Proposer_hear_accepted_state_p, ne_Proposer_hear_accepted__index_p, ne_Proposer_hear_accepted__count_p, ne_Proposer_hear_accepted__seen_p, ne_Proposer_hear_accepted__next_slot_p, ne_Proposer_hear_accepted__promises_p, ne_Proposer_hear_accepted__proposals_p, ne_Proposer_hear_accepted__voters_p, ne_Proposer_open_proposals_ballot_p, ne_Proposer_open_proposals_state_p, ne_Proposer_open_proposals__index_p, ne_Proposer_open_proposals__count_p, ne_Proposer_open_proposals__seen_p, ne_Proposer_open_proposals__next_slot_p, ne_Proposer_open_proposals__promises_p, ne_Proposer_open_proposals__proposals_p, ne_Proposer_open_proposals__voters_p, ne_Proposer_stop_ballot_p, ne_Proposer_stop_state_p, ne_Proposer_stop__index_p, ne_Proposer_stop__count_p, ne_Proposer_stop__seen_p, ne_Proposer_stop__next_slot_p, ne_Proposer_stop__promises_p, ne_Proposer_stop__proposals_p, ne_Proposer_stop__voters_p, ne_Proposer__forget_proposals_ballot_p, ne_Proposer__forget_proposals_state_p, ne_Proposer__forget_proposals__index_p, ne_Proposer__forget_proposals__count_p, ne_Proposer__forget_proposals__seen_p, ne_Proposer__forget_proposals__next_slot_p, ne_Proposer__forget_proposals__promises_p, ne_Proposer__forget_proposals__proposals_p, ne_Proposer__forget_proposals__voters_p]
theorem fl_Proposer__count {v0 v1 v2 v3 v4 v5 v6 v7 v8 : V} : (fl_Proposer v0 v1 v2 v3 v4 v5 v6 v7 v8).lookup ("_count" : Str) = some v3 := by unfold fl_Proposer; simp [List.lookup, ne_Proposer_ballot_state, ne_Proposer_ballot__index, ne_Proposer_ballot__count, ne_Proposer_ballot__seen, ne_Proposer_ballot__next_slot, ne_Proposer_ballot__promises, ne_Proposer_ballot__proposals, ne_Proposer_ballot__voters, ne_Proposer_state_ballot, ne_Proposer_state__index, ne_Proposer_state__count, ne_Proposer_state__seen, ne_Proposer_state__next_slot, ne_Proposer_state__promises, ne_Proposer_state__proposals, ne_Proposer_state__voters, ne_Proposer__index_ballot, ne_Proposer__index_state, ne_Proposer__index__count, ne_Proposer__index__seen, ne_Proposer__index__next_slot, ne_Proposer__index__promises, ne_Proposer__index__proposals, ne_Proposer__index__voters, ne_Proposer__count_ballot, ne_Proposer__count_state, ne_Proposer__count__index, ne_Proposer__count__seen, ne_Proposer__count__next_slot, ne_Proposer__count__promises, ne_Proposer__count__proposals, ne_Proposer__count__voters, ne_Proposer__seen_ballot, ne_Proposer__seen_state, ne_Proposer__seen__index, ne_Proposer__seen__count, ne_Proposer__seen__next_slot, ne_Proposer__seen__promises, ne_Proposer__seen__proposals, ne_Proposer__seen__voters, ne_Proposer__next_slot_ballot, ne_Proposer__next_slot_state, ne_Proposer__next_slot__index, ne_Proposer__next_slot__count, ne_Proposer__next_slot__seen, ne_Proposer__next_slot__promises, ne_Proposer__next_slot__proposals, ne_Proposer__next_slot__voters, ne_Proposer__promises_ballot, ne_Proposer__promises_state, ne_Proposer__promises__index, ne_Proposer__promises__count, ne_Proposer__promises__seen, ne_Proposer__promises__next_slot, ne_Proposer__promises__proposals, ne_Proposer__promises__voters, ne_Proposer__proposals_ballot, ne_Proposer__proposals_state, ne_Proposer__proposals__index, ne_Proposer__proposals__count, ne_Proposer__proposals__seen, ne_Proposer__proposals__next_slot, ne_Proposer__proposals__promises, ne_Proposer__proposals__voters, ne_Proposer__voters_ballot, ne_Proposer__voters_state, ne_Proposer__voters__index, ne_Proposer__voters__count, ne_Proposer__voters__seen, ne_Proposer__voters__next_slot, ne_Proposer__voters__promises, ne_Proposer__voters__proposals, ne_Proposer_saw_ballot, ne_Proposer_saw_state, ne_Proposer_saw__index, ne_Proposer_saw__count, ne_Proposer_saw__seen, ne_Proposer_saw__next_slot, ne_Proposer_saw__promises, ne_Proposer_saw__proposals, ne_Proposer_saw__voters, ne_Proposer_begin_ballot, ne_Proposer_begin_state, ne_Proposer_begin__index, ne_Proposer_begin__count, ne_Proposer_begin__seen, ne_Proposer_begin__next_slot, ne_Proposer_begin__promises, ne_Proposer_begin__proposals, ne_Proposer_begin__voters, ne_Proposer_hear_promise_ballot, ne_Proposer_hear_promise_state, ne_Proposer_hear_promise__index, ne_Proposer_hear_promise__count, ne_Proposer_hear_promise__seen, ne_Proposer_hear_promise__next_slot, ne_Proposer_hear_promise__promises, ne_Proposer_hear_promise__proposals, ne_Proposer_hear_promise__voters, ne_Proposer__open_accepted_ballot, ne_Proposer__open_accepted_state, ne_Proposer__open_accepted__index, ne_Proposer__open_accepted__count, ne_Proposer__open_accepted__seen, ne_Proposer__open_accepted__next_slot, ne_Proposer__open_accepted__promises, ne_Proposer__open_accepted__proposals, ne_Proposer__open_accepted__voters, ne_Proposer__promised_pairs_ballot, ne_Proposer__promised_pairs_state, ne_Proposer__promised_pairs__index, ne_Proposer__promised_pairs__count, ne_Proposer__promised_pairs__seen, ne_Proposer__promised_pairs__next_slot, ne_Proposer__promised_pairs__promises, ne_Proposer__promised_pairs__proposals, ne_Proposer__promised_pairs__voters, ne_Proposer_propose_ballot, ne_Proposer_propose_state, ne_Proposer_propose__index, ne_Proposer_propose__count, ne_Proposer_propose__seen, ne_Proposer_propose__next_slot, ne_Proposer_propose__promises, ne_Proposer_propose__proposals, ne_Proposer_propose__voters, ne_Proposer_hear_accepted_ballot, ne_Proposer_hear_accepted_state, ne_Proposer_hear_accepted__index, ne_Proposer_hear_accepted__count, ne_Proposer_hear_accepted__seen, ne_Proposer_hear_accepted__next_slot, ne_Proposer_hear_accepted__promises, ne_Proposer_hear_accepted__proposals, ne_Proposer_hear_accepted__voters, ne_Proposer_open_proposals_ballot, ne_Proposer_open_proposals_state, ne_Proposer_open_proposals__index, ne_Proposer_open_proposals__count, ne_Proposer_open_proposals__seen, ne_Proposer_open_proposals__next_slot, ne_Proposer_open_proposals__promises, ne_Proposer_open_proposals__proposals, ne_Proposer_open_proposals__voters, ne_Proposer_stop_ballot, ne_Proposer_stop_state, ne_Proposer_stop__index, ne_Proposer_stop__count, ne_Proposer_stop__seen, ne_Proposer_stop__next_slot, ne_Proposer_stop__promises, ne_Proposer_stop__proposals, ne_Proposer_stop__voters, ne_Proposer__forget_proposals_ballot, ne_Proposer__forget_proposals_state, ne_Proposer__forget_proposals__index, ne_Proposer__forget_proposals__count, ne_Proposer__forget_proposals__seen, ne_Proposer__forget_proposals__next_slot, ne_Proposer__forget_proposals__promises, ne_Proposer__forget_proposals__proposals, ne_Proposer__forget_proposals__voters, ne_Proposer_ballot_state_p, ne_Proposer_ballot__index_p, ne_Proposer_ballot__count_p, ne_Proposer_ballot__seen_p, ne_Proposer_ballot__next_slot_p, ne_Proposer_ballot__promises_p, ne_Proposer_ballot__proposals_p, ne_Proposer_ballot__voters_p, ne_Proposer_state_ballot_p, ne_Proposer_state__index_p, ne_Proposer_state__count_p, ne_Proposer_state__seen_p, ne_Proposer_state__next_slot_p, ne_Proposer_state__promises_p, ne_Proposer_state__proposals_p, ne_Proposer_state__voters_p, ne_Proposer__index_ballot_p, ne_Proposer__index_state_p, ne_Proposer__index__count_p, ne_Proposer__index__seen_p, ne_Proposer__index__next_slot_p, ne_Proposer__index__promises_p, ne_Proposer__index__proposals_p, ne_Proposer__index__voters_p, ne_Proposer__count_ballot_p, ne_Proposer__count_state_p, ne_Proposer__count__index_p, ne_Proposer__count__seen_p, ne_Proposer__count__next_slot_p, ne_Proposer__count__promises_p, ne_Proposer__count__proposals_p, ne_Proposer__count__voters_p, ne_Proposer__seen_ballot_p, ne_Proposer__seen_state_p, ne_Proposer__seen__index_p, ne_Proposer__seen__count_p, ne_Proposer__seen__next_slot_p, ne_Proposer__seen__promises_p, ne_Proposer__seen__proposals_p, ne_Proposer__seen__voters_p, ne_Proposer__next_slot_ballot_p, ne_Proposer__next_slot_state_p, ne_Proposer__next_slot__index_p, ne_Proposer__next_slot__count_p, ne_Proposer__next_slot__seen_p, ne_Proposer__next_slot__promises_p, ne_Proposer__next_slot__proposals_p, ne_Proposer__next_slot__voters_p, ne_Proposer__promises_ballot_p, ne_Proposer__promises_state_p, ne_Proposer__promises__index_p, ne_Proposer__promises__count_p, ne_Proposer__promises__seen_p, ne_Proposer__promises__next_slot_p, ne_Proposer__promises__proposals_p, ne_Proposer__promises__voters_p, ne_Proposer__proposals_ballot_p, ne_Proposer__proposals_state_p, ne_Proposer__proposals__index_p, ne_Proposer__proposals__count_p, ne_Proposer__proposals__seen_p, ne_Proposer__proposals__next_slot_p, ne_Proposer__proposals__promises_p, ne_Proposer__proposals__voters_p, ne_Proposer__voters_ballot_p, ne_Proposer__voters_state_p, ne_Proposer__voters__index_p, ne_Proposer__voters__count_p, ne_Proposer__voters__seen_p, ne_Proposer__voters__next_slot_p, ne_Proposer__voters__promises_p, ne_Proposer__voters__proposals_p, ne_Proposer_saw_ballot_p, ne_Proposer_saw_state_p, ne_Proposer_saw__index_p, ne_Proposer_saw__count_p, ne_Proposer_saw__seen_p, ne_Proposer_saw__next_slot_p, ne_Proposer_saw__promises_p, ne_Proposer_saw__proposals_p, ne_Proposer_saw__voters_p, ne_Proposer_begin_ballot_p, ne_Proposer_begin_state_p, ne_Proposer_begin__index_p, ne_Proposer_begin__count_p, ne_Proposer_begin__seen_p, ne_Proposer_begin__next_slot_p, ne_Proposer_begin__promises_p, ne_Proposer_begin__proposals_p, ne_Proposer_begin__voters_p, ne_Proposer_hear_promise_ballot_p, ne_Proposer_hear_promise_state_p, ne_Proposer_hear_promise__index_p, ne_Proposer_hear_promise__count_p, ne_Proposer_hear_promise__seen_p, ne_Proposer_hear_promise__next_slot_p, ne_Proposer_hear_promise__promises_p, ne_Proposer_hear_promise__proposals_p, ne_Proposer_hear_promise__voters_p, ne_Proposer__open_accepted_ballot_p, ne_Proposer__open_accepted_state_p, ne_Proposer__open_accepted__index_p, ne_Proposer__open_accepted__count_p, ne_Proposer__open_accepted__seen_p, ne_Proposer__open_accepted__next_slot_p, ne_Proposer__open_accepted__promises_p, ne_Proposer__open_accepted__proposals_p, ne_Proposer__open_accepted__voters_p, ne_Proposer__promised_pairs_ballot_p, ne_Proposer__promised_pairs_state_p, ne_Proposer__promised_pairs__index_p, ne_Proposer__promised_pairs__count_p, ne_Proposer__promised_pairs__seen_p, ne_Proposer__promised_pairs__next_slot_p, ne_Proposer__promised_pairs__promises_p, ne_Proposer__promised_pairs__proposals_p, ne_Proposer__promised_pairs__voters_p, ne_Proposer_propose_ballot_p, ne_Proposer_propose_state_p, ne_Proposer_propose__index_p, ne_Proposer_propose__count_p, ne_Proposer_propose__seen_p, ne_Proposer_propose__next_slot_p, ne_Proposer_propose__promises_p, ne_Proposer_propose__proposals_p, ne_Proposer_propose__voters_p, ne_Proposer_hear_accepted_ballot_p, ne_Proposer_hear_accepted_state_p, ne_Proposer_hear_accepted__index_p, ne_Proposer_hear_accepted__count_p, ne_Proposer_hear_accepted__seen_p, ne_Proposer_hear_accepted__next_slot_p, ne_Proposer_hear_accepted__promises_p, ne_Proposer_hear_accepted__proposals_p, ne_Proposer_hear_accepted__voters_p, ne_Proposer_open_proposals_ballot_p, ne_Proposer_open_proposals_state_p, ne_Proposer_open_proposals__index_p, ne_Proposer_open_proposals__count_p, ne_Proposer_open_proposals__seen_p, ne_Proposer_open_proposals__next_slot_p, ne_Proposer_open_proposals__promises_p, ne_Proposer_open_proposals__proposals_p, ne_Proposer_open_proposals__voters_p, ne_Proposer_stop_ballot_p, ne_Proposer_stop_state_p, ne_Proposer_stop__index_p, ne_Proposer_stop__count_p, ne_Proposer_stop__seen_p, ne_Proposer_stop__next_slot_p, ne_Proposer_stop__promises_p, ne_Proposer_stop__proposals_p, ne_Proposer_stop__voters_p, ne_Proposer__forget_proposals_ballot_p, ne_Proposer__forget_proposals_state_p, ne_Proposer__forget_proposals__index_p, ne_Proposer__forget_proposals__count_p, ne_Proposer__forget_proposals__seen_p, ne_Proposer__forget_proposals__next_slot_p, ne_Proposer__forget_proposals__promises_p, ne_Proposer__forget_proposals__proposals_p, ne_Proposer__forget_proposals__voters_p]
theorem pf_Proposer__count {v0 v1 v2 v3 v4 v5 v6 v7 v8 x : V} : putF ("_count" : Str) x (fl_Proposer v0 v1 v2 v3 v4 v5 v6 v7 v8) = fl_Proposer v0 v1 v2 x v4 v5 v6 v7 v8 := by unfold fl_Proposer; simp [putF, ne_Proposer_ballot_state, ne_Proposer_ballot__index, ne_Proposer_ballot__count, ne_Proposer_ballot__seen, ne_Proposer_ballot__next_slot, ne_Proposer_ballot__promises, ne_Proposer_ballot__proposals, ne_Proposer_ballot__voters, ne_Proposer_state_ballot, ne_Proposer_state__index, ne_Proposer_state__count, ne_Proposer_state__seen, ne_Proposer_state__next_slot, ne_Proposer_state__promises, ne_Proposer_state__proposals, ne_Proposer_state__voters, ne_Proposer__index_ballot, ne_Proposer__index_state, ne_Proposer__index__count, ne_Proposer__index__seen, ne_Proposer__index__next_slot, ne_Proposer__index__promises, ne_Proposer__index__proposals, ne_Proposer__index__voters, ne_Proposer__count_ballot, ne_Proposer__count_state, ne_Proposer__count__index, ne_Proposer__count__seen, ne_Proposer__count__next_slot, ne_Proposer__count__promises, ne_Proposer__count__proposals, ne_Proposer__count__voters, ne_Proposer__seen_ballot, ne_Proposer__seen_state, ne_Proposer__seen__index, ne_Proposer__seen__count, ne_Proposer__seen__next_slot, ne_Proposer__seen__promises, ne_Proposer__seen__proposals, ne_Proposer__seen__voters, ne_Proposer__next_slot_ballot, ne_Proposer__next_slot_state, ne_Proposer__next_slot__index, ne_Proposer__next_slot__count, ne_Proposer__next_slot__seen, ne_Proposer__next_slot__promises, ne_Proposer__next_slot__proposals, ne_Proposer__next_slot__voters, ne_Proposer__promises_ballot, ne_Proposer__promises_state, ne_Proposer__promises__index, ne_Proposer__promises__count, ne_Proposer__promises__seen, ne_Proposer__promises__next_slot, ne_Proposer__promises__proposals, ne_Proposer__promises__voters, ne_Proposer__proposals_ballot, ne_Proposer__proposals_state, ne_Proposer__proposals__index, ne_Proposer__proposals__count, ne_Proposer__proposals__seen, ne_Proposer__proposals__next_slot, ne_Proposer__proposals__promises, ne_Proposer__proposals__voters, ne_Proposer__voters_ballot, ne_Proposer__voters_state, ne_Proposer__voters__index, ne_Proposer__voters__count, ne_Proposer__voters__seen, ne_Proposer__voters__next_slot, ne_Proposer__voters__promises, ne_Proposer__voters__proposals, ne_Proposer_saw_ballot, ne_Proposer_saw_state, ne_Proposer_saw__index, ne_Proposer_saw__count, ne_Proposer_saw__seen, ne_Proposer_saw__next_slot, ne_Proposer_saw__promises, ne_Proposer_saw__proposals, ne_Proposer_saw__voters, ne_Proposer_begin_ballot, ne_Proposer_begin_state, ne_Proposer_begin__index, ne_Proposer_begin__count, ne_Proposer_begin__seen, ne_Proposer_begin__next_slot, ne_Proposer_begin__promises, ne_Proposer_begin__proposals, ne_Proposer_begin__voters, ne_Proposer_hear_promise_ballot, ne_Proposer_hear_promise_state, ne_Proposer_hear_promise__index, ne_Proposer_hear_promise__count, ne_Proposer_hear_promise__seen, ne_Proposer_hear_promise__next_slot, ne_Proposer_hear_promise__promises, ne_Proposer_hear_promise__proposals, ne_Proposer_hear_promise__voters, ne_Proposer__open_accepted_ballot, ne_Proposer__open_accepted_state, ne_Proposer__open_accepted__index, ne_Proposer__open_accepted__count, ne_Proposer__open_accepted__seen, ne_Proposer__open_accepted__next_slot, ne_Proposer__open_accepted__promises, ne_Proposer__open_accepted__proposals, ne_Proposer__open_accepted__voters, ne_Proposer__promised_pairs_ballot, ne_Proposer__promised_pairs_state, ne_Proposer__promised_pairs__index, ne_Proposer__promised_pairs__count, ne_Proposer__promised_pairs__seen, ne_Proposer__promised_pairs__next_slot, ne_Proposer__promised_pairs__promises, ne_Proposer__promised_pairs__proposals, ne_Proposer__promised_pairs__voters, ne_Proposer_propose_ballot, ne_Proposer_propose_state, ne_Proposer_propose__index, ne_Proposer_propose__count, ne_Proposer_propose__seen, ne_Proposer_propose__next_slot, ne_Proposer_propose__promises, ne_Proposer_propose__proposals, ne_Proposer_propose__voters, ne_Proposer_hear_accepted_ballot, ne_Proposer_hear_accepted_state, ne_Proposer_hear_accepted__index, ne_Proposer_hear_accepted__count, ne_Proposer_hear_accepted__seen, ne_Proposer_hear_accepted__next_slot, ne_Proposer_hear_accepted__promises, ne_Proposer_hear_accepted__proposals, ne_Proposer_hear_accepted__voters, ne_Proposer_open_proposals_ballot, ne_Proposer_open_proposals_state, ne_Proposer_open_proposals__index, ne_Proposer_open_proposals__count, ne_Proposer_open_proposals__seen, ne_Proposer_open_proposals__next_slot, ne_Proposer_open_proposals__promises, ne_Proposer_open_proposals__proposals, ne_Proposer_open_proposals__voters, ne_Proposer_stop_ballot, ne_Proposer_stop_state, ne_Proposer_stop__index, ne_Proposer_stop__count, ne_Proposer_stop__seen, ne_Proposer_stop__next_slot, ne_Proposer_stop__promises, ne_Proposer_stop__proposals, ne_Proposer_stop__voters, ne_Proposer__forget_proposals_ballot, ne_Proposer__forget_proposals_state, ne_Proposer__forget_proposals__index, ne_Proposer__forget_proposals__count, ne_Proposer__forget_proposals__seen, ne_Proposer__forget_proposals__next_slot, ne_Proposer__forget_proposals__promises, ne_Proposer__forget_proposals__proposals, ne_Proposer__forget_proposals__voters, ne_Proposer_ballot_state_p, ne_Proposer_ballot__index_p, ne_Proposer_ballot__count_p, ne_Proposer_ballot__seen_p, ne_Proposer_ballot__next_slot_p, ne_Proposer_ballot__promises_p, ne_Proposer_ballot__proposals_p, ne_Proposer_ballot__voters_p, ne_Proposer_state_ballot_p, ne_Proposer_state__index_p, ne_Proposer_state__count_p, ne_Proposer_state__seen_p, ne_Proposer_state__next_slot_p, ne_Proposer_state__promises_p, ne_Proposer_state__proposals_p, ne_Proposer_state__voters_p, ne_Proposer__index_ballot_p, ne_Proposer__index_state_p, ne_Proposer__index__count_p, ne_Proposer__index__seen_p, ne_Proposer__index__next_slot_p, ne_Proposer__index__promises_p, ne_Proposer__index__proposals_p, ne_Proposer__index__voters_p, ne_Proposer__count_ballot_p, ne_Proposer__count_state_p, ne_Proposer__count__index_p, ne_Proposer__count__seen_p, ne_Proposer__count__next_slot_p, ne_Proposer__count__promises_p, ne_Proposer__count__proposals_p, ne_Proposer__count__voters_p, ne_Proposer__seen_ballot_p, ne_Proposer__seen_state_p, ne_Proposer__seen__index_p, ne_Proposer__seen__count_p, ne_Proposer__seen__next_slot_p, ne_Proposer__seen__promises_p, ne_Proposer__seen__proposals_p, ne_Proposer__seen__voters_p, ne_Proposer__next_slot_ballot_p, ne_Proposer__next_slot_state_p, ne_Proposer__next_slot__index_p, ne_Proposer__next_slot__count_p, ne_Proposer__next_slot__seen_p, ne_Proposer__next_slot__promises_p, ne_Proposer__next_slot__proposals_p, ne_Proposer__next_slot__voters_p, ne_Proposer__promises_ballot_p, ne_Proposer__promises_state_p, ne_Proposer__promises__index_p, ne_Proposer__promises__count_p, ne_Proposer__promises__seen_p, ne_Proposer__promises__next_slot_p, ne_Proposer__promises__proposals_p, ne_Proposer__promises__voters_p, ne_Proposer__proposals_ballot_p, ne_Proposer__proposals_state_p, ne_Proposer__proposals__index_p, ne_Proposer__proposals__count_p, ne_Proposer__proposals__seen_p, ne_Proposer__proposals__next_slot_p, ne_Proposer__proposals__promises_p, ne_Proposer__proposals__voters_p, ne_Proposer__voters_ballot_p, ne_Proposer__voters_state_p, ne_Proposer__voters__index_p, ne_Proposer__voters__count_p, ne_Proposer__voters__seen_p, ne_Proposer__voters__next_slot_p, ne_Proposer__voters__promises_p, ne_Proposer__voters__proposals_p, ne_Proposer_saw_ballot_p, ne_Proposer_saw_state_p, ne_Proposer_saw__index_p, ne_Proposer_saw__count_p, ne_Proposer_saw__seen_p, ne_Proposer_saw__next_slot_p, ne_Proposer_saw__promises_p, ne_Proposer_saw__proposals_p, ne_Proposer_saw__voters_p, ne_Proposer_begin_ballot_p, ne_Proposer_begin_state_p, ne_Proposer_begin__index_p, ne_Proposer_begin__count_p, ne_Proposer_begin__seen_p, ne_Proposer_begin__next_slot_p, ne_Proposer_begin__promises_p, ne_Proposer_begin__proposals_p, ne_Proposer_begin__voters_p, ne_Proposer_hear_promise_ballot_p, ne_Proposer_hear_promise_state_p, ne_Proposer_hear_promise__index_p, ne_Proposer_hear_promise__count_p, ne_Proposer_hear_promise__seen_p, ne_Proposer_hear_promise__next_slot_p, ne_Proposer_hear_promise__promises_p, ne_Proposer_hear_promise__proposals_p, ne_Proposer_hear_promise__voters_p, ne_Proposer__open_accepted_ballot_p, ne_Proposer__open_accepted_state_p, ne_Proposer__open_accepted__index_p, ne_Proposer__open_accepted__count_p, ne_Proposer__open_accepted__seen_p, ne_Proposer__open_accepted__next_slot_p, ne_Proposer__open_accepted__promises_p, ne_Proposer__open_accepted__proposals_p, ne_Proposer__open_accepted__voters_p, ne_Proposer__promised_pairs_ballot_p, ne_Proposer__promised_pairs_state_p, ne_Proposer__promised_pairs__index_p, ne_Proposer__promised_pairs__count_p, ne_Proposer__promised_pairs__seen_p, ne_Proposer__promised_pairs__next_slot_p, ne_Proposer__promised_pairs__promises_p, ne_Proposer__promised_pairs__proposals_p, ne_Proposer__promised_pairs__voters_p, ne_Proposer_propose_ballot_p, ne_Proposer_propose_state_p, ne_Proposer_propose__index_p, ne_Proposer_propose__count_p, ne_Proposer_propose__seen_p, ne_Proposer_propose__next_slot_p, ne_Proposer_propose__promises_p, ne_Proposer_propose__proposals_p, ne_Proposer_propose__voters_p, ne_Proposer_hear_accepted_ballot_p, ne_Proposer_hear_accepted_state_p, ne_Proposer_hear_accepted__index_p, ne_Proposer_hear_accepted__count_p, ne_Proposer_hear_accepted__seen_p, ne_Proposer_hear_accepted__next_slot_p, ne_Proposer_hear_accepted__promises_p, ne_Proposer_hear_accepted__proposals_p, ne_Proposer_hear_accepted__voters_p, ne_Proposer_open_proposals_ballot_p, ne_Proposer_open_proposals_state_p, ne_Proposer_open_proposals__index_p, ne_Proposer_open_proposals__count_p, ne_Proposer_open_proposals__seen_p, ne_Proposer_open_proposals__next_slot_p, ne_Proposer_open_proposals__promises_p, ne_Proposer_open_proposals__proposals_p, ne_Proposer_open_proposals__voters_p, ne_Proposer_stop_ballot_p, ne_Proposer_stop_state_p, ne_Proposer_stop__index_p, ne_Proposer_stop__count_p, ne_Proposer_stop__seen_p, ne_Proposer_stop__next_slot_p, ne_Proposer_stop__promises_p, ne_Proposer_stop__proposals_p, ne_Proposer_stop__voters_p, ne_Proposer__forget_proposals_ballot_p, ne_Proposer__forget_proposals_state_p, ne_Proposer__forget_proposals__index_p, ne_Proposer__forget_proposals__count_p, ne_Proposer__forget_proposals__seen_p, ne_Proposer__forget_proposals__next_slot_p, ne_Proposer__forget_proposals__promises_p, ne_Proposer__forget_proposals__proposals_p, ne_Proposer__forget_proposals__voters_p]
theorem fl_Proposer__seen {v0 v1 v2 v3 v4 v5 v6 v7 v8 : V} : (fl_Proposer v0 v1 v2 v3 v4 v5 v6 v7 v8).lookup ("_seen" : Str) = some v4 := by unfold fl_Proposer; simp [List.lookup, ne_Proposer_ballot_state, ne_Proposer_ballot__index, ne_Proposer_ballot__count, ne_Proposer_ballot__seen, ne_Proposer_ballot__next_slot, ne_Proposer_ballot__promises, ne_Proposer_ballot__proposals, ne_Proposer_ballot__voters, ne_Proposer_state_ballot, ne_Proposer_state__index, ne_Proposer_state__count, ne_Proposer_state__seen, ne_Proposer_state__next_slot, ne_Proposer_state__promises, ne_Proposer_state__proposals, ne_Proposer_state__voters, ne_Proposer__index_ballot, ne_Proposer__index_state, ne_Proposer__index__count, ne_Proposer__index__seen, ne_Proposer__index__next_slot, ne_Proposer__index__promises, ne_Proposer__index__proposals, ne_Proposer__index__voters, ne_Proposer__count_ballot, ne_Proposer__count_state, ne_Proposer__count__index, ne_Proposer__count__seen, ne_Proposer__count__next_slot, ne_Proposer__count__promises, ne_Proposer__count__proposals, ne_Proposer__count__voters, ne_Proposer__seen_ballot, ne_Proposer__seen_state, ne_Proposer__seen__index, ne_Proposer__seen__count, ne_Proposer__seen__next_slot, ne_Proposer__seen__promises, ne_Proposer__seen__proposals, ne_Proposer__seen__voters, ne_Proposer__next_slot_ballot, ne_Proposer__next_slot_state, ne_Proposer__next_slot__index, ne_Proposer__next_slot__count, ne_Proposer__next_slot__seen, ne_Proposer__next_slot__promises, ne_Proposer__next_slot__proposals, ne_Proposer__next_slot__voters, ne_Proposer__promises_ballot, ne_Proposer__promises_state, ne_Proposer__promises__index, ne_Proposer__promises__count, ne_Proposer__promises__seen, ne_Proposer__promises__next_slot, ne_Proposer__promises__proposals, ne_Proposer__promises__voters, ne_Proposer__proposals_ballot, ne_Proposer__proposals_state, ne_Proposer__proposals__index, ne_Proposer__proposals__count, ne_Proposer__proposals__seen, ne_Proposer__proposals__next_slot, ne_Proposer__proposals__promises, ne_Proposer__proposals__voters, ne_Proposer__voters_ballot, ne_Proposer__voters_state, ne_Proposer__voters__index, ne_Proposer__voters__count, ne_Proposer__voters__seen, ne_Proposer__voters__next_slot, ne_Proposer__voters__promises, ne_Proposer__voters__proposals, ne_Proposer_saw_ballot, ne_Proposer_saw_state, ne_Proposer_saw__index, ne_Proposer_saw__count, ne_Proposer_saw__seen, ne_Proposer_saw__next_slot, ne_Proposer_saw__promises, ne_Proposer_saw__proposals, ne_Proposer_saw__voters, ne_Proposer_begin_ballot, ne_Proposer_begin_state, ne_Proposer_begin__index, ne_Proposer_begin__count, ne_Proposer_begin__seen, ne_Proposer_begin__next_slot, ne_Proposer_begin__promises, ne_Proposer_begin__proposals, ne_Proposer_begin__voters, ne_Proposer_hear_promise_ballot, ne_Proposer_hear_promise_state, ne_Proposer_hear_promise__index, ne_Proposer_hear_promise__count, ne_Proposer_hear_promise__seen, ne_Proposer_hear_promise__next_slot, ne_Proposer_hear_promise__promises, ne_Proposer_hear_promise__proposals, ne_Proposer_hear_promise__voters, ne_Proposer__open_accepted_ballot, ne_Proposer__open_accepted_state, ne_Proposer__open_accepted__index, ne_Proposer__open_accepted__count, ne_Proposer__open_accepted__seen, ne_Proposer__open_accepted__next_slot, ne_Proposer__open_accepted__promises, ne_Proposer__open_accepted__proposals, ne_Proposer__open_accepted__voters, ne_Proposer__promised_pairs_ballot, ne_Proposer__promised_pairs_state, ne_Proposer__promised_pairs__index, ne_Proposer__promised_pairs__count, ne_Proposer__promised_pairs__seen, ne_Proposer__promised_pairs__next_slot, ne_Proposer__promised_pairs__promises, ne_Proposer__promised_pairs__proposals, ne_Proposer__promised_pairs__voters, ne_Proposer_propose_ballot, ne_Proposer_propose_state, ne_Proposer_propose__index, ne_Proposer_propose__count, ne_Proposer_propose__seen, ne_Proposer_propose__next_slot, ne_Proposer_propose__promises, ne_Proposer_propose__proposals, ne_Proposer_propose__voters, ne_Proposer_hear_accepted_ballot, ne_Proposer_hear_accepted_state, ne_Proposer_hear_accepted__index, ne_Proposer_hear_accepted__count, ne_Proposer_hear_accepted__seen, ne_Proposer_hear_accepted__next_slot, ne_Proposer_hear_accepted__promises, ne_Proposer_hear_accepted__proposals, ne_Proposer_hear_accepted__voters, ne_Proposer_open_proposals_ballot, ne_Proposer_open_proposals_state, ne_Proposer_open_proposals__index, ne_Proposer_open_proposals__count, ne_Proposer_open_proposals__seen, ne_Proposer_open_proposals__next_slot, ne_Proposer_open_proposals__promises, ne_Proposer_open_proposals__proposals, ne_Proposer_open_proposals__voters, ne_Proposer_stop_ballot, ne_Proposer_stop_state, ne_Proposer_stop__index, ne_Proposer_stop__count, ne_Proposer_stop__seen, ne_Proposer_stop__next_slot, ne_Proposer_stop__promises, ne_Proposer_stop__proposals, ne_Proposer_stop__voters, ne_Proposer__forget_proposals_ballot, ne_Proposer__forget_proposals_state, ne_Proposer__forget_proposals__index, ne_Proposer__forget_proposals__count, ne_Proposer__forget_proposals__seen, ne_Proposer__forget_proposals__next_slot, ne_Proposer__forget_proposals__promises, ne_Proposer__forget_proposals__proposals, ne_Proposer__forget_proposals__voters, ne_Proposer_ballot_state_p, ne_Proposer_ballot__index_p, ne_Proposer_ballot__count_p, ne_Proposer_ballot__seen_p, ne_Proposer_ballot__next_slot_p, ne_Proposer_ballot__promises_p, ne_Proposer_ballot__proposals_p, ne_Proposer_ballot__voters_p, ne_Proposer_state_ballot_p, ne_Proposer_state__index_p, ne_Proposer_state__count_p, ne_Proposer_state__seen_p, ne_Proposer_state__next_slot_p, ne_Proposer_state__promises_p, ne_Proposer_state__proposals_p, ne_Proposer_state__voters_p, ne_Proposer__index_ballot_p, ne_Proposer__index_state_p, ne_Proposer__index__count_p, ne_Proposer__index__seen_p, ne_Proposer__index__next_slot_p, ne_Proposer__index__promises_p, ne_Proposer__index__proposals_p, ne_Proposer__index__voters_p, ne_Proposer__count_ballot_p, ne_Proposer__count_state_p, ne_Proposer__count__index_p, ne_Proposer__count__seen_p, ne_Proposer__count__next_slot_p, ne_Proposer__count__promises_p, ne_Proposer__count__proposals_p, ne_Proposer__count__voters_p, ne_Proposer__seen_ballot_p, ne_Proposer__seen_state_p, ne_Proposer__seen__index_p, ne_Proposer__seen__count_p, ne_Proposer__seen__next_slot_p, ne_Proposer__seen__promises_p, ne_Proposer__seen__proposals_p, ne_Proposer__seen__voters_p, ne_Proposer__next_slot_ballot_p, ne_Proposer__next_slot_state_p, ne_Proposer__next_slot__index_p, ne_Proposer__next_slot__count_p, ne_Proposer__next_slot__seen_p, ne_Proposer__next_slot__promises_p, ne_Proposer__next_slot__proposals_p, ne_Proposer__next_slot__voters_p, ne_Proposer__promises_ballot_p, ne_Proposer__promises_state_p, ne_Proposer__promises__index_p, ne_Proposer__promises__count_p, ne_Proposer__promises__seen_p, ne_Proposer__promises__next_slot_p, ne_Proposer__promises__proposals_p, ne_Proposer__promises__voters_p, ne_Proposer__proposals_ballot_p, ne_Proposer__proposals_state_p, ne_Proposer__proposals__index_p, ne_Proposer__proposals__count_p, ne_Proposer__proposals__seen_p, ne_Proposer__proposals__next_slot_p, ne_Proposer__proposals__promises_p, ne_Proposer__proposals__voters_p, ne_Proposer__voters_ballot_p, ne_Proposer__voters_state_p, ne_Proposer__voters__index_p, ne_Proposer__voters__count_p, ne_Proposer__voters__seen_p, ne_Proposer__voters__next_slot_p, ne_Proposer__voters__promises_p, ne_Proposer__voters__proposals_p, ne_Proposer_saw_ballot_p, ne_Proposer_saw_state_p, ne_Proposer_saw__index_p, ne_Proposer_saw__count_p, ne_Proposer_saw__seen_p, ne_Proposer_saw__next_slot_p, ne_Proposer_saw__promises_p, ne_Proposer_saw__proposals_p, ne_Proposer_saw__voters_p, ne_Proposer_begin_ballot_p, ne_Proposer_begin_state_p, ne_Proposer_begin__index_p, ne_Proposer_begin__count_p, ne_Proposer_begin__seen_p, ne_Proposer_begin__next_slot_p, ne_Proposer_begin__promises_p, ne_Proposer_begin__proposals_p, ne_Proposer_begin__voters_p, ne_Proposer_hear_promise_ballot_p, ne_Proposer_hear_promise_state_p, ne_Proposer_hear_promise__index_p, ne_Proposer_hear_promise__count_p, ne_Proposer_hear_promise__seen_p, ne_Proposer_hear_promise__next_slot_p, ne_Proposer_hear_promise__promises_p, ne_Proposer_hear_promise__proposals_p, ne_Proposer_hear_promise__voters_p, ne_Proposer__open_accepted_ballot_p, ne_Proposer__open_accepted_state_p, ne_Proposer__open_accepted__index_p, ne_Proposer__open_accepted__count_p, ne_Proposer__open_accepted__seen_p, ne_Proposer__open_accepted__next_slot_p, ne_Proposer__open_accepted__promises_p, ne_Proposer__open_accepted__proposals_p, ne_Proposer__open_accepted__voters_p, ne_Proposer__promised_pairs_ballot_p, ne_Proposer__promised_pairs_state_p, ne_Proposer__promised_pairs__index_p, ne_Proposer__promised_pairs__count_p, ne_Proposer__promised_pairs__seen_p, ne_Proposer__promised_pairs__next_slot_p, ne_Proposer__promised_pairs__promises_p, ne_Proposer__promised_pairs__proposals_p, ne_Proposer__promised_pairs__voters_p, ne_Proposer_propose_ballot_p, ne_Proposer_propose_state_p, ne_Proposer_propose__index_p, ne_Proposer_propose__count_p, ne_Proposer_propose__seen_p, ne_Proposer_propose__next_slot_p, ne_Proposer_propose__promises_p, ne_Proposer_propose__proposals_p, ne_Proposer_propose__voters_p, ne_Proposer_hear_accepted_ballot_p, ne_Proposer_hear_accepted_state_p, ne_Proposer_hear_accepted__index_p, ne_Proposer_hear_accepted__count_p, ne_Proposer_hear_accepted__seen_p, ne_Proposer_hear_accepted__next_slot_p, ne_Proposer_hear_accepted__promises_p, ne_Proposer_hear_accepted__proposals_p, ne_Proposer_hear_accepted__voters_p, ne_Proposer_open_proposals_ballot_p, ne_Proposer_open_proposals_state_p, ne_Proposer_open_proposals__index_p, ne_Proposer_open_proposals__count_p, ne_Proposer_open_proposals__seen_p, ne_Proposer_open_proposals__next_slot_p, ne_Proposer_open_proposals__promises_p, ne_Proposer_open_proposals__proposals_p, ne_Proposer_open_proposals__voters_p, ne_Proposer_stop_ballot_p, ne_Proposer_stop_state_p, ne_Proposer_stop__index_p, ne_Proposer_stop__count_p, ne_Proposer_stop__seen_p, ne_Proposer_stop__next_slot_p, ne_Proposer_stop__promises_p, ne_Proposer_stop__proposals_p, ne_Proposer_stop__voters_p, ne_Proposer__forget_proposals_ballot_p, ne_Proposer__forget_proposals_state_p, ne_Proposer__forget_proposals__index_p, ne_Proposer__forget_proposals__count_p, ne_Proposer__forget_proposals__seen_p, ne_Proposer__forget_proposals__next_slot_p, ne_Proposer__forget_proposals__promises_p, ne_Proposer__forget_proposals__proposals_p, ne_Proposer__forget_proposals__voters_p]
theorem pf_Proposer__seen {v0 v1 v2 v3 v4 v5 v6 v7 v8 x : V} : putF ("_seen" : Str) x (fl_Proposer v0 v1 v2 v3 v4 v5 v6 v7 v8) = fl_Proposer v0 v1 v2 v3 x v5 v6 v7 v8 := by unfold fl_Proposer; simp [putF, ne_Proposer_ballot_state, ne_Proposer_ballot__index, ne_Proposer_ballot__count, ne_Proposer_ballot__seen, ne_Proposer_ballot__next_slot, ne_Proposer_ballot__promises, ne_Proposer_ballot__proposals, ne_Proposer_ballot__voters, ne_Proposer_state_ballot, ne_Proposer_state__index, ne_Proposer_state__count, ne_Proposer_state__seen, ne_Proposer_state__next_slot, ne_Proposer_state__promises, ne_Proposer_state__proposals, ne_Proposer_state__voters, ne_Proposer__index_ballot, ne_Proposer__index_state, ne_Proposer__index__count, ne_Proposer__index__seen, ne_Proposer__index__next_slot, ne_Proposer__index__promises, ne_Proposer__index__proposals, ne_Proposer__index__voters, ne_Proposer__count_ballot, ne_Proposer__count_state, ne_Proposer__count__index, ne_Proposer__count__seen, ne_Proposer__count__next_slot, ne_Proposer__count__promises, ne_Proposer__count__proposals, ne_Proposer__count__voters, ne_Proposer__seen_ballot, ne_Proposer__seen_state, ne_Proposer__seen__index, ne_Proposer__seen__count, ne_Proposer__seen__next_slot, ne_Proposer__seen__promises, ne_Proposer__seen__proposals, ne_Proposer__seen__voters, ne_Proposer__next_slot_ballot, ne_Proposer__next_slot_state, ne_Proposer__next_slot__index, ne_Proposer__next_slot__count, ne_Proposer__next_slot__seen, ne_Proposer__next_slot__promises, ne_Proposer__next_slot__proposals, ne_Proposer__next_slot__voters, ne_Proposer__promises_ballot, ne_Proposer__promises_state, ne_Proposer__promises__index, ne_Proposer__promises__count, ne_Proposer__promises__seen, ne_Proposer__promises__next_slot, ne_Proposer__promises__proposals, ne_Proposer__promises__voters, ne_Proposer__proposals_ballot, ne_Proposer__proposals_state, ne_Proposer__proposals__index, ne_Proposer__proposals__count, ne_Proposer__proposals__seen, ne_Proposer__proposals__next_slot, ne_Proposer__proposals__promises, ne_Proposer__proposals__voters, ne_Proposer__voters_ballot, ne_Proposer__voters_state, ne_Proposer__voters__index, ne_Proposer__voters__count, ne_Proposer__voters__seen, ne_Proposer__voters__next_slot, ne_Proposer__voters__promises, ne_Proposer__voters__proposals, ne_Proposer_saw_ballot, ne_Proposer_saw_state, ne_Proposer_saw__index, ne_Proposer_saw__count, ne_Proposer_saw__seen, ne_Proposer_saw__next_slot, ne_Proposer_saw__promises, ne_Proposer_saw__proposals, ne_Proposer_saw__voters, ne_Proposer_begin_ballot, ne_Proposer_begin_state, ne_Proposer_begin__index, ne_Proposer_begin__count, ne_Proposer_begin__seen, ne_Proposer_begin__next_slot, ne_Proposer_begin__promises, ne_Proposer_begin__proposals, ne_Proposer_begin__voters, ne_Proposer_hear_promise_ballot, ne_Proposer_hear_promise_state, ne_Proposer_hear_promise__index, ne_Proposer_hear_promise__count, ne_Proposer_hear_promise__seen, ne_Proposer_hear_promise__next_slot, ne_Proposer_hear_promise__promises, ne_Proposer_hear_promise__proposals, ne_Proposer_hear_promise__voters, ne_Proposer__open_accepted_ballot, ne_Proposer__open_accepted_state, ne_Proposer__open_accepted__index, ne_Proposer__open_accepted__count, ne_Proposer__open_accepted__seen, ne_Proposer__open_accepted__next_slot, ne_Proposer__open_accepted__promises, ne_Proposer__open_accepted__proposals, ne_Proposer__open_accepted__voters, ne_Proposer__promised_pairs_ballot, ne_Proposer__promised_pairs_state, ne_Proposer__promised_pairs__index, ne_Proposer__promised_pairs__count, ne_Proposer__promised_pairs__seen, ne_Proposer__promised_pairs__next_slot, ne_Proposer__promised_pairs__promises, ne_Proposer__promised_pairs__proposals, ne_Proposer__promised_pairs__voters, ne_Proposer_propose_ballot, ne_Proposer_propose_state, ne_Proposer_propose__index, ne_Proposer_propose__count, ne_Proposer_propose__seen, ne_Proposer_propose__next_slot, ne_Proposer_propose__promises, ne_Proposer_propose__proposals, ne_Proposer_propose__voters, ne_Proposer_hear_accepted_ballot, ne_Proposer_hear_accepted_state, ne_Proposer_hear_accepted__index, ne_Proposer_hear_accepted__count, ne_Proposer_hear_accepted__seen, ne_Proposer_hear_accepted__next_slot, ne_Proposer_hear_accepted__promises, ne_Proposer_hear_accepted__proposals, ne_Proposer_hear_accepted__voters, ne_Proposer_open_proposals_ballot, ne_Proposer_open_proposals_state, ne_Proposer_open_proposals__index, ne_Proposer_open_proposals__count, ne_Proposer_open_proposals__seen, ne_Proposer_open_proposals__next_slot, ne_Proposer_open_proposals__promises, ne_Proposer_open_proposals__proposals, ne_Proposer_open_proposals__voters, ne_Proposer_stop_ballot, ne_Proposer_stop_state, ne_Proposer_stop__index, ne_Proposer_stop__count, ne_Proposer_stop__seen, ne_Proposer_stop__next_slot, ne_Proposer_stop__promises, ne_Proposer_stop__proposals, ne_Proposer_stop__voters, ne_Proposer__forget_proposals_ballot, ne_Proposer__forget_proposals_state, ne_Proposer__forget_proposals__index, ne_Proposer__forget_proposals__count, ne_Proposer__forget_proposals__seen, ne_Proposer__forget_proposals__next_slot, ne_Proposer__forget_proposals__promises, ne_Proposer__forget_proposals__proposals, ne_Proposer__forget_proposals__voters, ne_Proposer_ballot_state_p, ne_Proposer_ballot__index_p, ne_Proposer_ballot__count_p, ne_Proposer_ballot__seen_p, ne_Proposer_ballot__next_slot_p, ne_Proposer_ballot__promises_p, ne_Proposer_ballot__proposals_p, ne_Proposer_ballot__voters_p, ne_Proposer_state_ballot_p, ne_Proposer_state__index_p, ne_Proposer_state__count_p, ne_Proposer_state__seen_p, ne_Proposer_state__next_slot_p, ne_Proposer_state__promises_p, ne_Proposer_state__proposals_p, ne_Proposer_state__voters_p, ne_Proposer__index_ballot_p, ne_Proposer__index_state_p, ne_Proposer__index__count_p, ne_Proposer__index__seen_p, ne_Proposer__index__next_slot_p, ne_Proposer__index__promises_p, ne_Proposer__index__proposals_p, ne_Proposer__index__voters_p, ne_Proposer__count_ballot_p, ne_Proposer__count_state_p, ne_Proposer__count__index_p, ne_Proposer__count__seen_p, ne_Proposer__count__next_slot_p, ne_Proposer__count__promises_p, ne_Proposer__count__proposals_p, ne_Proposer__count__voters_p, ne_Proposer__seen_ballot_p, ne_Proposer__seen_state_p, ne_Proposer__seen__index_p, ne_Proposer__seen__count_p, ne_Proposer__seen__next_slot_p, ne_Proposer__seen__promises_p, ne_Proposer__seen__proposals_p, ne_Proposer__seen__voters_p, ne_Proposer__next_slot_ballot_p, ne_Proposer__next_slot_state_p, ne_Proposer__next_slot__index_p, ne_Proposer__next_slot__count_p, ne_Proposer__next_slot__seen_p, ne_Proposer__next_slot__promises_p, ne_Proposer__next_slot__proposals_p, ne_Proposer__next_slot__voters_p, ne_Proposer__promises_ballot_p, ne_Proposer__promises_state_p, ne_Proposer__promises__index_p, ne_Proposer__promises__count_p, ne_Proposer__promises__seen_p, ne_Proposer__promises__next_slot_p, ne_Proposer__promises__proposals_p, ne_Proposer__promises__voters_p, ne_Proposer__proposals_ballot_p, ne_Proposer__proposals_state_p, ne_Proposer__proposals__index_p, ne_Proposer__proposals__count_p, ne_Proposer__proposals__seen_p, ne_Proposer__proposals__next_slot_p, ne_Proposer__proposals__promises_p, ne_Proposer__proposals__voters_p, ne_Proposer__voters_ballot_p, ne_Proposer__voters_state_p, ne_Proposer__voters__index_p, ne_Proposer__voters__count_p, ne_Proposer__voters__seen_p, ne_Proposer__voters__next_slot_p, ne_Proposer__voters__promises_p, ne_Proposer__voters__proposals_p, ne_Proposer_saw_ballot_p, ne_Proposer_saw_state_p, ne_Proposer_saw__index_p, ne_Proposer_saw__count_p, ne_Proposer_saw__seen_p, ne_Proposer_saw__next_slot_p, ne_Proposer_saw__promises_p, ne_Proposer_saw__proposals_p, ne_Proposer_saw__voters_p, ne_Proposer_begin_ballot_p, ne_Proposer_begin_state_p, ne_Proposer_begin__index_p, ne_Proposer_begin__count_p, ne_Proposer_begin__seen_p, ne_Proposer_begin__next_slot_p, ne_Proposer_begin__promises_p, ne_Proposer_begin__proposals_p, ne_Proposer_begin__voters_p, ne_Proposer_hear_promise_ballot_p, ne_Proposer_hear_promise_state_p, ne_Proposer_hear_promise__index_p, ne_Proposer_hear_promise__count_p, ne_Proposer_hear_promise__seen_p, ne_Proposer_hear_promise__next_slot_p, ne_Proposer_hear_promise__promises_p, ne_Proposer_hear_promise__proposals_p, ne_Proposer_hear_promise__voters_p, ne_Proposer__open_accepted_ballot_p, ne_Proposer__open_accepted_state_p, ne_Proposer__open_accepted__index_p, ne_Proposer__open_accepted__count_p, ne_Proposer__open_accepted__seen_p, ne_Proposer__open_accepted__next_slot_p, ne_Proposer__open_accepted__promises_p, ne_Proposer__open_accepted__proposals_p, ne_Proposer__open_accepted__voters_p, ne_Proposer__promised_pairs_ballot_p, ne_Proposer__promised_pairs_state_p, ne_Proposer__promised_pairs__index_p, ne_Proposer__promised_pairs__count_p, ne_Proposer__promised_pairs__seen_p, ne_Proposer__promised_pairs__next_slot_p, ne_Proposer__promised_pairs__promises_p, ne_Proposer__promised_pairs__proposals_p, ne_Proposer__promised_pairs__voters_p, ne_Proposer_propose_ballot_p, ne_Proposer_propose_state_p, ne_Proposer_propose__index_p, ne_Proposer_propose__count_p, ne_Proposer_propose__seen_p, ne_Proposer_propose__next_slot_p, ne_Proposer_propose__promises_p, ne_Proposer_propose__proposals_p, ne_Proposer_propose__voters_p, ne_Proposer_hear_accepted_ballot_p, ne_Proposer_hear_accepted_state_p, ne_Proposer_hear_accepted__index_p, ne_Proposer_hear_accepted__count_p, ne_Proposer_hear_accepted__seen_p, ne_Proposer_hear_accepted__next_slot_p, ne_Proposer_hear_accepted__promises_p, ne_Proposer_hear_accepted__proposals_p, ne_Proposer_hear_accepted__voters_p, ne_Proposer_open_proposals_ballot_p, ne_Proposer_open_proposals_state_p, ne_Proposer_open_proposals__index_p, ne_Proposer_open_proposals__count_p, ne_Proposer_open_proposals__seen_p, ne_Proposer_open_proposals__next_slot_p, ne_Proposer_open_proposals__promises_p, ne_Proposer_open_proposals__proposals_p, ne_Proposer_open_proposals__voters_p, ne_Proposer_stop_ballot_p, ne_Proposer_stop_state_p, ne_Proposer_stop__index_p, ne_Proposer_stop__count_p, ne_Proposer_stop__seen_p, ne_Proposer_stop__next_slot_p, ne_Proposer_stop__promises_p, ne_Proposer_stop__proposals_p, ne_Proposer_stop__voters_p, ne_Proposer__forget_proposals_ballot_p, ne_Proposer__forget_proposals_state_p, ne_Proposer__forget_proposals__index_p, ne_Proposer__forget_proposals__count_p, ne_Proposer__forget_proposals__seen_p, ne_Proposer__forget_proposals__next_slot_p, ne_Proposer__forget_proposals__promises_p, ne_Proposer__forget_proposals__proposals_p, ne_Proposer__forget_proposals__voters_p]
theorem fl_Proposer__next_slot {v0 v1 v2 v3 v4 v5 v6 v7 v8 : V} : (fl_Proposer v0 v1 v2 v3 v4 v5 v6 v7 v8).lookup ("_next_slot" : Str) = some v5 := by unfold fl_Proposer; simp [List.lookup, ne_Proposer_ballot_state, ne_Proposer_ballot__index, ne_Proposer_ballot__count, ne_Proposer_ballot__seen, ne_Proposer_ballot__next_slot, ne_Proposer_ballot__promises, ne_Proposer_ballot__proposals, ne_Proposer_ballot__voters, ne_Proposer_state_ballot, ne_Proposer_state__index, ne_Proposer_state__count, ne_Proposer_state__seen, ne_Proposer_state__next_slot, ne_Proposer_state__promises, ne_Proposer_state__proposals, ne_Proposer_state__voters, ne_Proposer__index_ballot, ne_Proposer__index_state, ne_Proposer__index__count, ne_Proposer__index__seen, ne_Proposer__index__next_slot, ne_Proposer__index__promises, ne_Proposer__index__proposals, ne_Proposer__index__voters, ne_Proposer__count_ballot, ne_Proposer__count_state, ne_Proposer__count__index, ne_Proposer__count__seen, ne_Proposer__count__next_slot, ne_Proposer__count__promises, ne_Proposer__count__proposals, ne_Proposer__count__voters, ne_Proposer__seen_ballot, ne_Proposer__seen_state, ne_Proposer__seen__index, ne_Proposer__seen__count, ne_Proposer__seen__next_slot, ne_Proposer__seen__promises, ne_Proposer__seen__proposals, ne_Proposer__seen__voters, ne_Proposer__next_slot_ballot, ne_Proposer__next_slot_state, ne_Proposer__next_slot__index, ne_Proposer__next_slot__count, ne_Proposer__next_slot__seen, ne_Proposer__next_slot__promises, ne_Proposer__next_slot__proposals, ne_Proposer__next_slot__voters, ne_Proposer__promises_ballot, ne_Proposer__promises_state, ne_Proposer__promises__index, ne_Proposer__promises__count, ne_Proposer__promises__seen, ne_Proposer__promises__next_slot, ne_Proposer__promises__proposals, ne_Proposer__promises__voters, ne_Proposer__proposals_ballot, ne_Proposer__proposals_state, ne_Proposer__proposals__index, ne_Proposer__proposals__count, ne_Proposer__proposals__seen, ne_Proposer__proposals__next_slot, ne_Proposer__proposals__promises, ne_Proposer__proposals__voters, ne_Proposer__voters_ballot, ne_Proposer__voters_state, ne_Proposer__voters__index, ne_Proposer__voters__count, ne_Proposer__voters__seen, ne_Proposer__voters__next_slot, ne_Proposer__voters__promises, ne_Proposer__voters__proposals, ne_Proposer_saw_ballot, ne_Proposer_saw_state, ne_Proposer_saw__index, ne_Proposer_saw__count, ne_Proposer_saw__seen, ne_Proposer_saw__next_slot, ne_Proposer_saw__promises, ne_Proposer_saw__proposals, ne_Proposer_saw__voters, ne_Proposer_begin_ballot, ne_Proposer_begin_state, ne_Proposer_begin__index, ne_Proposer_begin__count, ne_Proposer_begin__seen, ne_Proposer_begin__next_slot, ne_Proposer_begin__promises, ne_Proposer_begin__proposals, ne_Proposer_begin__voters, ne_Proposer_hear_promise_ballot, ne_Proposer_hear_promise_state, ne_Proposer_hear_promise__index, ne_Proposer_hear_promise__count, ne_Proposer_hear_promise__seen, ne_Proposer_hear_promise__next_slot, ne_Proposer_hear_promise__promises, ne_Proposer_hear_promise__proposals, ne_Proposer_hear_promise__voters, ne_Proposer__open_accepted_ballot, ne_Proposer__open_accepted_state, ne_Proposer__open_accepted__index, ne_Proposer__open_accepted__count, ne_Proposer__open_accepted__seen, ne_Proposer__open_accepted__next_slot, ne_Proposer__open_accepted__promises, ne_Proposer__open_accepted__proposals, ne_Proposer__open_accepted__voters, ne_Proposer__promised_pairs_ballot, ne_Proposer__promised_pairs_state, ne_Proposer__promised_pairs__index, ne_Proposer__promised_pairs__count, ne_Proposer__promised_pairs__seen, ne_Proposer__promised_pairs__next_slot, ne_Proposer__promised_pairs__promises, ne_Proposer__promised_pairs__proposals, ne_Proposer__promised_pairs__voters, ne_Proposer_propose_ballot, ne_Proposer_propose_state, ne_Proposer_propose__index, ne_Proposer_propose__count, ne_Proposer_propose__seen, ne_Proposer_propose__next_slot, ne_Proposer_propose__promises, ne_Proposer_propose__proposals, ne_Proposer_propose__voters, ne_Proposer_hear_accepted_ballot, ne_Proposer_hear_accepted_state, ne_Proposer_hear_accepted__index, ne_Proposer_hear_accepted__count, ne_Proposer_hear_accepted__seen, ne_Proposer_hear_accepted__next_slot, ne_Proposer_hear_accepted__promises, ne_Proposer_hear_accepted__proposals, ne_Proposer_hear_accepted__voters, ne_Proposer_open_proposals_ballot, ne_Proposer_open_proposals_state, ne_Proposer_open_proposals__index, ne_Proposer_open_proposals__count, ne_Proposer_open_proposals__seen, ne_Proposer_open_proposals__next_slot, ne_Proposer_open_proposals__promises, ne_Proposer_open_proposals__proposals, ne_Proposer_open_proposals__voters, ne_Proposer_stop_ballot, ne_Proposer_stop_state, ne_Proposer_stop__index, ne_Proposer_stop__count, ne_Proposer_stop__seen, ne_Proposer_stop__next_slot, ne_Proposer_stop__promises, ne_Proposer_stop__proposals, ne_Proposer_stop__voters, ne_Proposer__forget_proposals_ballot, ne_Proposer__forget_proposals_state, ne_Proposer__forget_proposals__index, ne_Proposer__forget_proposals__count, ne_Proposer__forget_proposals__seen, ne_Proposer__forget_proposals__next_slot, ne_Proposer__forget_proposals__promises, ne_Proposer__forget_proposals__proposals, ne_Proposer__forget_proposals__voters, ne_Proposer_ballot_state_p, ne_Proposer_ballot__index_p, ne_Proposer_ballot__count_p, ne_Proposer_ballot__seen_p, ne_Proposer_ballot__next_slot_p, ne_Proposer_ballot__promises_p, ne_Proposer_ballot__proposals_p, ne_Proposer_ballot__voters_p, ne_Proposer_state_ballot_p, ne_Proposer_state__index_p, ne_Proposer_state__count_p, ne_Proposer_state__seen_p, ne_Proposer_state__next_slot_p, ne_Proposer_state__promises_p, ne_Proposer_state__proposals_p, ne_Proposer_state__voters_p, ne_Proposer__index_ballot_p, ne_Proposer__index_state_p, ne_Proposer__index__count_p, ne_Proposer__index__seen_p, ne_Proposer__index__next_slot_p, ne_Proposer__index__promises_p, ne_Proposer__index__proposals_p, ne_Proposer__index__voters_p, ne_Proposer__count_ballot_p, ne_Proposer__count_state_p, ne_Proposer__count__index_p, ne_Proposer__count__seen_p, ne_Proposer__count__next_slot_p, ne_Proposer__count__promises_p, ne_Proposer__count__proposals_p, ne_Proposer__count__voters_p, ne_Proposer__seen_ballot_p, ne_Proposer__seen_state_p, ne_Proposer__seen__index_p, ne_Proposer__seen__count_p, ne_Proposer__seen__next_slot_p, ne_Proposer__seen__promises_p, ne_Proposer__seen__proposals_p, ne_Proposer__seen__voters_p, ne_Proposer__next_slot_ballot_p, ne_Proposer__next_slot_state_p, ne_Proposer__next_slot__index_p, ne_Proposer__next_slot__count_p, ne_Proposer__next_slot__seen_p, ne_Proposer__next_slot__promises_p, ne_Proposer__next_slot__proposals_p, ne_Proposer__next_slot__voters_p, ne_Proposer__promises_ballot_p, ne_Proposer__promises_state_p, ne_Proposer__promises__index_p, ne_Proposer__promises__count_p, ne_Proposer__promises__seen_p, ne_Proposer__promises__next_slot_p, ne_Proposer__promises__proposals_p, ne_Proposer__promises__voters_p, ne_Proposer__proposals_ballot_p, ne_Proposer__proposals_state_p, ne_Proposer__proposals__index_p, ne_Proposer__proposals__count_p, ne_Proposer__proposals__seen_p, ne_Proposer__proposals__next_slot_p, ne_Proposer__proposals__promises_p, ne_Proposer__proposals__voters_p, ne_Proposer__voters_ballot_p, ne_Proposer__voters_state_p, ne_Proposer__voters__index_p, ne_Proposer__voters__count_p, ne_Proposer__voters__seen_p, ne_Proposer__voters__next_slot_p, ne_Proposer__voters__promises_p, ne_Proposer__voters__proposals_p, ne_Proposer_saw_ballot_p, ne_Proposer_saw_state_p, ne_Proposer_saw__index_p, ne_Proposer_saw__count_p, ne_Proposer_saw__seen_p, ne_Proposer_saw__next_slot_p, ne_Proposer_saw__promises_p, ne_Proposer_saw__proposals_p, ne_Proposer_saw__voters_p, ne_Proposer_begin_ballot_p, ne_Proposer_begin_state_p, ne_Proposer_begin__index_p, ne_Proposer_begin__count_p, ne_Proposer_begin__seen_p, ne_Proposer_begin__next_slot_p, ne_Proposer_begin__promises_p, ne_Proposer_begin__proposals_p, ne_Proposer_begin__voters_p, ne_Proposer_hear_promise_ballot_p, ne_Proposer_hear_promise_state_p, ne_Proposer_hear_promise__index_p, ne_Proposer_hear_promise__count_p, ne_Proposer_hear_promise__seen_p, ne_Proposer_hear_promise__next_slot_p, ne_Proposer_hear_promise__promises_p, ne_Proposer_hear_promise__proposals_p, ne_Proposer_hear_promise__voters_p, ne_Proposer__open_accepted_ballot_p, ne_Proposer__open_accepted_state_p, ne_Proposer__open_accepted__index_p, ne_Proposer__open_accepted__count_p, ne_Proposer__open_accepted__seen_p, ne_Proposer__open_accepted__next_slot_p, ne_Proposer__open_accepted__promises_p, ne_Proposer__open_accepted__proposals_p, ne_Proposer__open_accepted__voters_p, ne_Proposer__promised_pairs_ballot_p, ne_Proposer__promised_pairs_state_p, ne_Proposer__promised_pairs__index_p, ne_Proposer__promised_pairs__count_p, ne_Proposer__promised_pairs__seen_p, ne_Proposer__promised_pairs__next_slot_p, ne_Proposer__promised_pairs__promises_p, ne_Proposer__promised_pairs__proposals_p, ne_Proposer__promised_pairs__voters_p, ne_Proposer_propose_ballot_p, ne_Proposer_propose_state_p, ne_Proposer_propose__index_p, ne_Proposer_propose__count_p, ne_Proposer_propose__seen_p, ne_Proposer_propose__next_slot_p, ne_Proposer_propose__promises_p, ne_Proposer_propose__proposals_p, ne_Proposer_propose__voters_p, ne_Proposer_hear_accepted_ballot_p, ne_Proposer_hear_accepted_state_p, ne_Proposer_hear_accepted__index_p, ne_Proposer_hear_accepted__count_p, ne_Proposer_hear_accepted__seen_p, ne_Proposer_hear_accepted__next_slot_p, ne_Proposer_hear_accepted__promises_p, ne_Proposer_hear_accepted__proposals_p, ne_Proposer_hear_accepted__voters_p, ne_Proposer_open_proposals_ballot_p, ne_Proposer_open_proposals_state_p, ne_Proposer_open_proposals__index_p, ne_Proposer_open_proposals__count_p, ne_Proposer_open_proposals__seen_p, ne_Proposer_open_proposals__next_slot_p, ne_Proposer_open_proposals__promises_p, ne_Proposer_open_proposals__proposals_p, ne_Proposer_open_proposals__voters_p, ne_Proposer_stop_ballot_p, ne_Proposer_stop_state_p, ne_Proposer_stop__index_p, ne_Proposer_stop__count_p, ne_Proposer_stop__seen_p, ne_Proposer_stop__next_slot_p, ne_Proposer_stop__promises_p, ne_Proposer_stop__proposals_p, ne_Proposer_stop__voters_p, ne_Proposer__forget_proposals_ballot_p, ne_Proposer__forget_proposals_state_p, ne_Proposer__forget_proposals__index_p, ne_Proposer__forget_proposals__count_p, ne_Proposer__forget_proposals__seen_p, ne_Proposer__forget_proposals__next_slot_p, ne_Proposer__forget_proposals__promises_p, ne_Proposer__forget_proposals__proposals_p, ne_Proposer__forget_proposals__voters_p]
theorem pf_Proposer__next_slot {v0 v1 v2 v3 v4 v5 v6 v7 v8 x : V} : putF ("_next_slot" : Str) x (fl_Proposer v0 v1 v2 v3 v4 v5 v6 v7 v8) = fl_Proposer v0 v1 v2 v3 v4 x v6 v7 v8 := by unfold fl_Proposer; simp [putF, ne_Proposer_ballot_state, ne_Proposer_ballot__index, ne_Proposer_ballot__count, ne_Proposer_ballot__seen, ne_Proposer_ballot__next_slot, ne_Proposer_ballot__promises, ne_Proposer_ballot__proposals, ne_Proposer_ballot__voters, ne_Proposer_state_ballot, ne_Proposer_state__index, ne_Proposer_state__count, ne_Proposer_state__seen, ne_Proposer_state__next_slot, ne_Proposer_state__promises, ne_Proposer_state__proposals, ne_Proposer_state__voters, ne_Proposer__index_ballot, ne_Proposer__index_state, ne_Proposer__index__count, ne_Proposer__index__seen, ne_Proposer__index__next_slot, ne_Proposer__index__promises, ne_Proposer__index__proposals, ne_Proposer__index__voters, ne_Proposer__count_ballot, ne_Proposer__count_state, ne_Proposer__count__index, ne_Proposer__count__seen, ne_Proposer__count__next_slot, ne_Proposer__count__promises, ne_Proposer__count__proposals, ne_Proposer__count__voters, ne_Proposer__seen_ballot, ne_Proposer__seen_state, ne_Proposer__seen__index, ne_Proposer__seen__count, ne_Proposer__seen__next_slot, ne_Proposer__seen__promises, ne_Proposer__seen__proposals, ne_Proposer__seen__voters, ne_Proposer__next_slot_ballot, ne_Proposer__next_slot_state, ne_Proposer__next_slot__index, ne_Proposer__next_slot__count, ne_Proposer__next_slot__seen, ne_Proposer__next_slot__promises, ne_Proposer__next_slot__proposals, ne_Proposer__next_slot__voters, ne_Proposer__promises_ballot, ne_Proposer__promises_state, ne_Proposer__promises__index, ne_Proposer__promises__count, ne_Proposer__promises__seen, ne_Proposer__promises__next_slot, ne_Proposer__promises__proposals, ne_Proposer__promises__voters, ne_Proposer__proposals_ballot, ne_Proposer__proposals_state, ne_Proposer__proposals__index, ne_Proposer__proposals__count, ne_Proposer__proposals__seen, ne_Proposer__proposals__next_slot, ne_Proposer__proposals__promises, ne_Proposer__proposals__voters, ne_Proposer__voters_ballot, ne_Proposer__voters_state, ne_Proposer__voters__index, ne_Proposer__voters__count, ne_Proposer__voters__seen, ne_Proposer__voters__next_slot, ne_Proposer__voters__promises, ne_Proposer__voters__proposals, ne_Proposer_saw_ballot, ne_Proposer_saw_state, ne_Proposer_saw__index, ne_Proposer_saw__count, ne_Proposer_saw__seen, ne_Proposer_saw__next_slot, ne_Proposer_saw__promises, ne_Proposer_saw__proposals, ne_Proposer_saw__voters, ne_Proposer_begin_ballot, ne_Proposer_begin_state, ne_Proposer_begin__index, ne_Proposer_begin__count, ne_Proposer_begin__seen, ne_Proposer_begin__next_slot, ne_Proposer_begin__promises, ne_Proposer_begin__proposals, ne_Proposer_begin__voters, ne_Proposer_hear_promise_ballot, ne_Proposer_hear_promise_state, ne_Proposer_hear_promise__index, ne_Proposer_hear_promise__count, ne_Proposer_hear_promise__seen, ne_Proposer_hear_promise__next_slot, ne_Proposer_hear_promise__promises, ne_Proposer_hear_promise__proposals, ne_Proposer_hear_promise__voters, ne_Proposer__open_accepted_ballot, ne_Proposer__open_accepted_state, ne_Proposer__open_accepted__index, ne_Proposer__open_accepted__count, ne_Proposer__open_accepted__seen, ne_Proposer__open_accepted__next_slot, ne_Proposer__open_accepted__promises, ne_Proposer__open_accepted__proposals, ne_Proposer__open_accepted__voters, ne_Proposer__promised_pairs_ballot, ne_Proposer__promised_pairs_state, ne_Proposer__promised_pairs__index, ne_Proposer__promised_pairs__count, ne_Proposer__promised_pairs__seen, ne_Proposer__promised_pairs__next_slot, ne_Proposer__promised_pairs__promises, ne_Proposer__promised_pairs__proposals, ne_Proposer__promised_pairs__voters, ne_Proposer_propose_ballot, ne_Proposer_propose_state, ne_Proposer_propose__index, ne_Proposer_propose__count, ne_Proposer_propose__seen, ne_Proposer_propose__next_slot, ne_Proposer_propose__promises, ne_Proposer_propose__proposals, ne_Proposer_propose__voters, ne_Proposer_hear_accepted_ballot, ne_Proposer_hear_accepted_state, ne_Proposer_hear_accepted__index, ne_Proposer_hear_accepted__count, ne_Proposer_hear_accepted__seen, ne_Proposer_hear_accepted__next_slot, ne_Proposer_hear_accepted__promises, ne_Proposer_hear_accepted__proposals, ne_Proposer_hear_accepted__voters, ne_Proposer_open_proposals_ballot, ne_Proposer_open_proposals_state, ne_Proposer_open_proposals__index, ne_Proposer_open_proposals__count, ne_Proposer_open_proposals__seen, ne_Proposer_open_proposals__next_slot, ne_Proposer_open_proposals__promises, ne_Proposer_open_proposals__proposals, ne_Proposer_open_proposals__voters, ne_Proposer_stop_ballot, ne_Proposer_stop_state, ne_Proposer_stop__index, ne_Proposer_stop__count, ne_Proposer_stop__seen, ne_Proposer_stop__next_slot, ne_Proposer_stop__promises, ne_Proposer_stop__proposals, ne_Proposer_stop__voters, ne_Proposer__forget_proposals_ballot, ne_Proposer__forget_proposals_state, ne_Proposer__forget_proposals__index, ne_Proposer__forget_proposals__count, ne_Proposer__forget_proposals__seen, ne_Proposer__forget_proposals__next_slot, ne_Proposer__forget_proposals__promises, ne_Proposer__forget_proposals__proposals, ne_Proposer__forget_proposals__voters, ne_Proposer_ballot_state_p, ne_Proposer_ballot__index_p, ne_Proposer_ballot__count_p, ne_Proposer_ballot__seen_p, ne_Proposer_ballot__next_slot_p, ne_Proposer_ballot__promises_p, ne_Proposer_ballot__proposals_p, ne_Proposer_ballot__voters_p, ne_Proposer_state_ballot_p, ne_Proposer_state__index_p, ne_Proposer_state__count_p, ne_Proposer_state__seen_p, ne_Proposer_state__next_slot_p, ne_Proposer_state__promises_p, ne_Proposer_state__proposals_p, ne_Proposer_state__voters_p, ne_Proposer__index_ballot_p, ne_Proposer__index_state_p, ne_Proposer__index__count_p, ne_Proposer__index__seen_p, ne_Proposer__index__next_slot_p, ne_Proposer__index__promises_p, ne_Proposer__index__proposals_p, ne_Proposer__index__voters_p, ne_Proposer__count_ballot_p, ne_Proposer__count_state_p, ne_Proposer__count__index_p, ne_Proposer__count__seen_p, ne_Proposer__count__next_slot_p, ne_Proposer__count__promises_p, ne_Proposer__count__proposals_p, ne_Proposer__count__voters_p, ne_Proposer__seen_ballot_p, ne_Proposer__seen_state_p, ne_Proposer__seen__index_p, ne_Proposer__seen__count_p, ne_Proposer__seen__next_slot_p, ne_Proposer__seen__promises_p, ne_Proposer__seen__proposals_p, ne_Proposer__seen__voters_p, ne_Proposer__next_slot_ballot_p, ne_Proposer__next_slot_state_p, ne_Proposer__next_slot__index_p, ne_Proposer__next_slot__count_p, ne_Proposer__next_slot__seen_p, ne_Proposer__next_slot__promises_p, ne_Proposer__next_slot__proposals_p, ne_Proposer__next_slot__voters_p, ne_Proposer__promises_ballot_p, ne_Proposer__promises_state_p, ne_Proposer__promises__index_p, ne_Proposer__promises__count_p, ne_Proposer__promises__seen_p, ne_Proposer__promises__next_slot_p, ne_Proposer__promises__proposals_p, ne_Proposer__promises__voters_p, ne_Proposer__proposals_ballot_p, ne_Proposer__proposals_state_p, ne_Proposer__proposals__index_p, ne_Proposer__proposals__count_p, ne_Proposer__proposals__seen_p, ne_Proposer__proposals__next_slot_p, ne_Proposer__proposals__promises_p, ne_Proposer__proposals__voters_p, ne_Proposer__voters_ballot_p, ne_Proposer__voters_state_p, ne_Proposer__voters__index_p, ne_Proposer__voters__count_p, ne_Proposer__voters__seen_p, ne_Proposer__voters__next_slot_p, ne_Proposer__voters__promises_p, ne_Proposer__voters__proposals_p, ne_Proposer_saw_ballot_p, ne_Proposer_saw_state_p, ne_Proposer_saw__index_p, ne_Proposer_saw__count_p, ne_Proposer_saw__seen_p, ne_Proposer_saw__next_slot_p, ne_Proposer_saw__promises_p, ne_Proposer_saw__proposals_p, ne_Proposer_saw__voters_p, ne_Proposer_begin_ballot_p, ne_Proposer_begin_state_p, ne_Proposer_begin__index_p, ne_Proposer_begin__count_p, ne_Proposer_begin__seen_p, ne_Proposer_begin__next_slot_p, ne_Proposer_begin__promises_p, ne_Proposer_begin__proposals_p, ne_Proposer_begin__voters_p, ne_Proposer_hear_promise_ballot_p, ne_Proposer_hear_promise_state_p, ne_Proposer_hear_promise__index_p, ne_Proposer_hear_promise__count_p, ne_Proposer_hear_promise__seen_p, ne_Proposer_hear_promise__next_slot_p, ne_Proposer_hear_promise__promises_p, ne_Proposer_hear_promise__proposals_p, ne_Proposer_hear_promise__voters_p, ne_Proposer__open_accepted_ballot_p, ne_Proposer__open_accepted_state_p, ne_Proposer__open_accepted__index_p, ne_Proposer__open_accepted__count_p, ne_Proposer__open_accepted__seen_p, ne_Proposer__open_accepted__next_slot_p, ne_Proposer__open_accepted__promises_p, ne_Proposer__open_accepted__proposals_p, ne_Proposer__open_accepted__voters_p, ne_Proposer__promised_pairs_ballot_p, ne_Proposer__promised_pairs_state_p, ne_Proposer__promised_pairs__index_p, ne_Proposer__promised_pairs__count_p, ne_Proposer__promised_pairs__seen_p, ne_Proposer__promised_pairs__next_slot_p, ne_Proposer__promised_pairs__promises_p, ne_Proposer__promised_pairs__proposals_p, ne_Proposer__promised_pairs__voters_p, ne_Proposer_propose_ballot_p, ne_Proposer_propose_state_p, ne_Proposer_propose__index_p, ne_Proposer_propose__count_p, ne_Proposer_propose__seen_p, ne_Proposer_propose__next_slot_p, ne_Proposer_propose__promises_p, ne_Proposer_propose__proposals_p, ne_Proposer_propose__voters_p, ne_Proposer_hear_accepted_ballot_p, ne_Proposer_hear_accepted_state_p, ne_Proposer_hear_accepted__index_p, ne_Proposer_hear_accepted__count_p, ne_Proposer_hear_accepted__seen_p, ne_Proposer_hear_accepted__next_slot_p, ne_Proposer_hear_accepted__promises_p, ne_Proposer_hear_accepted__proposals_p, ne_Proposer_hear_accepted__voters_p, ne_Proposer_open_proposals_ballot_p, ne_Proposer_open_proposals_state_p, ne_Proposer_open_proposals__index_p, ne_Proposer_open_proposals__count_p, ne_Proposer_open_proposals__seen_p, ne_Proposer_open_proposals__next_slot_p, ne_Proposer_open_proposals__promises_p, ne_Proposer_open_proposals__proposals_p, ne_Proposer_open_proposals__voters_p, ne_Proposer_stop_ballot_p, ne_Proposer_stop_state_p, ne_Proposer_stop__index_p, ne_Proposer_stop__count_p, ne_Proposer_stop__seen_p, ne_Proposer_stop__next_slot_p, ne_Proposer_stop__promises_p, ne_Proposer_stop__proposals_p, ne_Proposer_stop__voters_p, ne_Proposer__forget_proposals_ballot_p, ne_Proposer__forget_proposals_state_p, ne_Proposer__forget_proposals__index_p, ne_Proposer__forget_proposals__count_p, ne_Proposer__forget_proposals__seen_p, ne_Proposer__forget_proposals__next_slot_p, ne_Proposer__forget_proposals__promises_p, ne_Proposer__forget_proposals__proposals_p, ne_Proposer__forget_proposals__voters_p]
theorem fl_Proposer__promises {v0 v1 v2 v3 v4 v5 v6 v7 v8 : V} : (fl_Proposer v0 v1 v2 v3 v4 v5 v6 v7 v8).lookup ("_promises" : Str) = some v6 := by unfold fl_Proposer; simp [List.lookup, ne_Proposer_ballot_state, ne_Proposer_ballot__index, ne_Proposer_ballot__count, ne_Proposer_ballot__seen, ne_Proposer_ballot__next_slot, ne_Proposer_ballot__promises, ne_Proposer_ballot__proposals, ne_Proposer_ballot__voters, ne_Proposer_state_ballot, ne_Proposer_state__index, ne_Proposer_state__count, ne_Proposer_state__seen, ne_Proposer_state__next_slot, ne_Proposer_state__promises, ne_Proposer_state__proposals, ne_Proposer_state__voters, ne_Proposer__index_ballot, ne_Proposer__index_state, ne_Proposer__index__count, ne_Proposer__index__seen, ne_Proposer__index__next_slot, ne_Proposer__index__promises, ne_Proposer__index__proposals, ne_Proposer__index__voters, ne_Proposer__count_ballot, ne_Proposer__count_state, ne_Proposer__count__index, ne_Proposer__count__seen, ne_Proposer__count__next_slot, ne_Proposer__count__promises, ne_Proposer__count__proposals, ne_Proposer__count__voters, ne_Proposer__seen_ballot, ne_Proposer__seen_state, ne_Proposer__seen__index, ne_Proposer__seen__count, ne_Proposer__seen__next_slot, ne_Proposer__seen__promises, ne_Proposer__seen__proposals, ne_Proposer__seen__voters, ne_Proposer__next_slot_ballot, ne_Proposer__next_slot_state, ne_Proposer__next_slot__index, ne_Proposer__next_slot__count, ne_Proposer__next_slot__seen, ne_Proposer__next_slot__promises, ne_Proposer__next_slot__proposals, ne_Proposer__next_slot__voters, ne_Proposer__promises_ballot, ne_Proposer__promises_state, ne_Proposer__promises__index, ne_Proposer__promises__count, ne_Proposer__promises__seen, ne_Proposer__promises__next_slot, ne_Proposer__promises__proposals, ne_Proposer__promises__voters, ne_Proposer__proposals_ballot, ne_Proposer__proposals_state, ne_Proposer__proposals__index, ne_Proposer__proposals__count, ne_Proposer__proposals__seen, ne_Proposer__proposals__next_slot, ne_Proposer__proposals__promises, ne_Proposer__proposals__voters, ne_Proposer__voters_ballot, ne_Proposer__voters_state, ne_Proposer__voters__index, ne_Proposer__voters__count, ne_Proposer__voters__seen, ne_Proposer__voters__next_slot, ne_Proposer__voters__promises, ne_Proposer__voters__proposals, ne_Proposer_saw_ballot, ne_Proposer_saw_state, ne_Proposer_saw__index, ne_Proposer_saw__count, ne_Proposer_saw__seen, ne_Proposer_saw__next_slot, ne_Proposer_saw__promises, ne_Proposer_saw__proposals, ne_Proposer_saw__voters, ne_Proposer_begin_ballot, ne_Proposer_begin_state, ne_Proposer_begin__index, ne_Proposer_begin__count, ne_Proposer_begin__seen, ne_Proposer_begin__next_slot, ne_Proposer_begin__promises, ne_Proposer_begin__proposals, ne_Proposer_begin__voters, ne_Proposer_hear_promise_ballot, ne_Proposer_hear_promise_state, ne_Proposer_hear_promise__index, ne_Proposer_hear_promise__count, ne_Proposer_hear_promise__seen, ne_Proposer_hear_promise__next_slot, ne_Proposer_hear_promise__promises, ne_Proposer_hear_promise__proposals, ne_Proposer_hear_promise__voters, ne_Proposer__open_accepted_ballot, ne_Proposer__open_accepted_state, ne_Proposer__open_accepted__index, ne_Proposer__open_accepted__count, ne_Proposer__open_accepted__seen, ne_Proposer__open_accepted__next_slot, ne_Proposer__open_accepted__promises, ne_Proposer__open_accepted__proposals, ne_Proposer__open_accepted__voters, ne_Proposer__promised_pairs_ballot, ne_Proposer__promised_pairs_state, ne_Proposer__promised_pairs__index, ne_Proposer__promised_pairs__count, ne_Proposer__promised_pairs__seen, ne_Proposer__promised_pairs__next_slot, ne_Proposer__promised_pairs__promises, ne_Proposer__promised_pairs__proposals, ne_Proposer__promised_pairs__voters, ne_Proposer_propose_ballot, ne_Proposer_propose_state, ne_Proposer_propose__index, ne_Proposer_propose__count, ne_Proposer_propose__seen, ne_Proposer_propose__next_slot, ne_Proposer_propose__promises, ne_Proposer_propose__proposals, ne_Proposer_propose__voters, ne_Proposer_hear_accepted_ballot, ne_Proposer_hear_accepted_state, ne_Proposer_hear_accepted__index, ne_Proposer_hear_accepted__count, ne_Proposer_hear_accepted__seen, ne_Proposer_hear_accepted__next_slot, ne_Proposer_hear_accepted__promises, ne_Proposer_hear_accepted__proposals, ne_Proposer_hear_accepted__voters, ne_Proposer_open_proposals_ballot, ne_Proposer_open_proposals_state, ne_Proposer_open_proposals__index, ne_Proposer_open_proposals__count, ne_Proposer_open_proposals__seen, ne_Proposer_open_proposals__next_slot, ne_Proposer_open_proposals__promises, ne_Proposer_open_proposals__proposals, ne_Proposer_open_proposals__voters, ne_Proposer_stop_ballot, ne_Proposer_stop_state, ne_Proposer_stop__index, ne_Proposer_stop__count, ne_Proposer_stop__seen, ne_Proposer_stop__next_slot, ne_Proposer_stop__promises, ne_Proposer_stop__proposals, ne_Proposer_stop__voters, ne_Proposer__forget_proposals_ballot, ne_Proposer__forget_proposals_state, ne_Proposer__forget_proposals__index, ne_Proposer__forget_proposals__count, ne_Proposer__forget_proposals__seen, ne_Proposer__forget_proposals__next_slot, ne_Proposer__forget_proposals__promises, ne_Proposer__forget_proposals__proposals, ne_Proposer__forget_proposals__voters, ne_Proposer_ballot_state_p, ne_Proposer_ballot__index_p, ne_Proposer_ballot__count_p, ne_Proposer_ballot__seen_p, ne_Proposer_ballot__next_slot_p, ne_Proposer_ballot__promises_p, ne_Proposer_ballot__proposals_p, ne_Proposer_ballot__voters_p, ne_Proposer_state_ballot_p, ne_Proposer_state__index_p, ne_Proposer_state__count_p, ne_Proposer_state__seen_p, ne_Proposer_state__next_slot_p, ne_Proposer_state__promises_p, ne_Proposer_state__proposals_p, ne_Proposer_state__voters_p, ne_Proposer__index_ballot_p, ne_Proposer__index_state_p, ne_Proposer__index__count_p, ne_Proposer__index__seen_p, ne_Proposer__index__next_slot_p, ne_Proposer__index__promises_p, ne_Proposer__index__proposals_p, ne_Proposer__index__voters_p, ne_Proposer__count_ballot_p, ne_Proposer__count_state_p, ne_Proposer__count__index_p, ne_Proposer__count__seen_p, ne_Proposer__count__next_slot_p, ne_Proposer__count__promises_p, ne_Proposer__count__proposals_p, ne_Proposer__count__voters_p, ne_Proposer__seen_ballot_p, ne_Proposer__seen_state_p, ne_Proposer__seen__index_p, ne_Proposer__seen__count_p, ne_Proposer__seen__next_slot_p, ne_Proposer__seen__promises_p, ne_Proposer__seen__proposals_p, ne_Proposer__seen__voters_p, ne_Proposer__next_slot_ballot_p, ne_Proposer__next_slot_state_p, ne_Proposer__next_slot__index_p, ne_Proposer__next_slot__count_p, ne_Proposer__next_slot__seen_p, ne_Proposer__next_slot__promises_p, ne_Proposer__next_slot__proposals_p, ne_Proposer__next_slot__voters_p, ne_Proposer__promises_ballot_p, ne_Proposer__promises_state_p, ne_Proposer__promises__index_p, ne_Proposer__promises__count_p, ne_Proposer__promises__seen_p, ne_Proposer__promises__next_slot_p, ne_Proposer__promises__proposals_p, ne_Proposer__promises__voters_p, ne_Proposer__proposals_ballot_p, ne_Proposer__proposals_state_p, ne_Proposer__proposals__index_p, ne_Proposer__proposals__count_p, ne_Proposer__proposals__seen_p, ne_Proposer__proposals__next_slot_p, ne_Proposer__proposals__promises_p, ne_Proposer__proposals__voters_p, ne_Proposer__voters_ballot_p, ne_Proposer__voters_state_p, ne_Proposer__voters__index_p, ne_Proposer__voters__count_p, ne_Proposer__voters__seen_p, ne_Proposer__voters__next_slot_p, ne_Proposer__voters__promises_p, ne_Proposer__voters__proposals_p, ne_Proposer_saw_ballot_p, ne_Proposer_saw_state_p, ne_Proposer_saw__index_p, ne_Proposer_saw__count_p, ne_Proposer_saw__seen_p, ne_Proposer_saw__next_slot_p, ne_Proposer_saw__promises_p, ne_Proposer_saw__proposals_p, ne_Proposer_saw__voters_p, ne_Proposer_begin_ballot_p, ne_Proposer_begin_state_p, ne_Proposer_begin__index_p, ne_Proposer_begin__count_p, ne_Proposer_begin__seen_p, ne_Proposer_begin__next_slot_p, ne_Proposer_begin__promises_p, ne_Proposer_begin__proposals_p, ne_Proposer_begin__voters_p, ne_Proposer_hear_promise_ballot_p, ne_Proposer_hear_promise_state_p, ne_Proposer_hear_promise__index_p, ne_Proposer_hear_promise__count_p, ne_Proposer_hear_promise__seen_p, ne_Proposer_hear_promise__next_slot_p, ne_Proposer_hear_promise__promises_p, ne_Proposer_hear_promise__proposals_p, ne_Proposer_hear_promise__voters_p, ne_Proposer__open_accepted_ballot_p, ne_Proposer__open_accepted_state_p, ne_Proposer__open_accepted__index_p, ne_Proposer__open_accepted__count_p, ne_Proposer__open_accepted__seen_p, ne_Proposer__open_accepted__next_slot_p, ne_Proposer__open_accepted__promises_p, ne_Proposer__open_accepted__proposals_p, ne_Proposer__open_accepted__voters_p, ne_Proposer__promised_pairs_ballot_p, ne_Proposer__promised_pairs_state_p, ne_Proposer__promised_pairs__index_p, ne_Proposer__promised_pairs__count_p, ne_Proposer__promised_pairs__seen_p, ne_Proposer__promised_pairs__next_slot_p, ne_Proposer__promised_pairs__promises_p, ne_Proposer__promised_pairs__proposals_p, ne_Proposer__promised_pairs__voters_p, ne_Proposer_propose_ballot_p, ne_Proposer_propose_state_p, ne_Proposer_propose__index_p, ne_Proposer_propose__count_p, ne_Proposer_propose__seen_p, ne_Proposer_propose__next_slot_p, ne_Proposer_propose__promises_p, ne_Proposer_propose__proposals_p, ne_Proposer_propose__voters_p, ne_Proposer_hear_accepted_ballot_p, ne_Proposer_hear_accepted_state_p, ne_Proposer_hear_accepted__index_p, ne_Proposer_hear_accepted__count_p, ne_Proposer_hear_accepted__seen_p, ne_Proposer_hear_accepted__next_slot_p, ne_Proposer_hear_accepted__promises_p, ne_Proposer_hear_accepted__proposals_p, ne_Proposer_hear_accepted__voters_p, ne_Proposer_open_proposals_ballot_p, ne_Proposer_open_proposals_state_p, ne_Proposer_open_proposals__index_p, ne_Proposer_open_proposals__count_p, ne_Proposer_open_proposals__seen_p, ne_Proposer_open_proposals__next_slot_p, ne_Proposer_open_proposals__promises_p, ne_Proposer_open_proposals__proposals_p, ne_Proposer_open_proposals__voters_p, ne_Proposer_stop_ballot_p, ne_Proposer_stop_state_p, ne_Proposer_stop__index_p, ne_Proposer_stop__count_p, ne_Proposer_stop__seen_p, ne_Proposer_stop__next_slot_p, ne_Proposer_stop__promises_p, ne_Proposer_stop__proposals_p, ne_Proposer_stop__voters_p, ne_Proposer__forget_proposals_ballot_p, ne_Proposer__forget_proposals_state_p, ne_Proposer__forget_proposals__index_p, ne_Proposer__forget_proposals__count_p, ne_Proposer__forget_proposals__seen_p, ne_Proposer__forget_proposals__next_slot_p, ne_Proposer__forget_proposals__promises_p, ne_Proposer__forget_proposals__proposals_p, ne_Proposer__forget_proposals__voters_p]
theorem pf_Proposer__promises {v0 v1 v2 v3 v4 v5 v6 v7 v8 x : V} : putF ("_promises" : Str) x (fl_Proposer v0 v1 v2 v3 v4 v5 v6 v7 v8) = fl_Proposer v0 v1 v2 v3 v4 v5 x v7 v8 := by unfold fl_Proposer; simp [putF, ne_Proposer_ballot_state, ne_Proposer_ballot__index, ne_Proposer_ballot__count, ne_Proposer_ballot__seen, ne_Proposer_ballot__next_slot, ne_Proposer_ballot__promises, ne_Proposer_ballot__proposals, ne_Proposer_ballot__voters, ne_Proposer_state_ballot, ne_Proposer_state__index, ne_Proposer_state__count, ne_Proposer_state__seen, ne_Proposer_state__next_slot, ne_Proposer_state__promises, ne_Proposer_state__proposals, ne_Proposer_state__voters, ne_Proposer__index_ballot, ne_Proposer__index_state, ne_Proposer__index__count, ne_Proposer__index__seen, ne_Proposer__index__next_slot, ne_Proposer__index__promises, ne_Proposer__index__proposals, ne_Proposer__index__voters, ne_Proposer__count_ballot, ne_Proposer__count_state, ne_Proposer__count__index, ne_Proposer__count__seen, ne_Proposer__count__next_slot, ne_Proposer__count__promises, ne_Proposer__count__proposals, ne_Proposer__count__voters, ne_Proposer__seen_ballot, ne_Proposer__seen_state, ne_Proposer__seen__index, ne_Proposer__seen__count, ne_Proposer__seen__next_slot, ne_Proposer__seen__promises, ne_Proposer__seen__proposals, ne_Proposer__seen__voters, ne_Proposer__next_slot_ballot, ne_Proposer__next_slot_state, ne_Proposer__next_slot__index, ne_Proposer__next_slot__count, ne_Proposer__next_slot__seen, ne_Proposer__next_slot__promises, ne_Proposer__next_slot__proposals, ne_Proposer__next_slot__voters, ne_Proposer__promises_ballot, ne_Proposer__promises_state, ne_Proposer__promises__index, ne_Proposer__promises__count, ne_Proposer__promises__seen, ne_Proposer__promises__next_slot, ne_Proposer__promises__proposals, ne_Proposer__promises__voters, ne_Proposer__proposals_ballot, ne_Proposer__proposals_state, ne_Proposer__proposals__index, ne_Proposer__proposals__count, ne_Proposer__proposals__seen, ne_Proposer__proposals__next_slot, ne_Proposer__proposals__promises, ne_Proposer__proposals__voters, ne_Proposer__voters_ballot, ne_Proposer__voters_state, ne_Proposer__voters__index, ne_Proposer__voters__count, ne_Proposer__voters__seen, ne_Proposer__voters__next_slot, ne_Proposer__voters__promises, ne_Proposer__voters__proposals, ne_Proposer_saw_ballot, ne_Proposer_saw_state, ne_Proposer_saw__index, ne_Proposer_saw__count, ne_Proposer_saw__seen, ne_Proposer_saw__next_slot, ne_Proposer_saw__promises, ne_Proposer_saw__proposals, ne_Proposer_saw__voters, ne_Proposer_begin_ballot, ne_Proposer_begin_state, ne_Proposer_begin__index, ne_Proposer_begin__count, ne_Proposer_begin__seen, ne_Proposer_begin__next_slot, ne_Proposer_begin__promises, ne_Proposer_begin__proposals, ne_Proposer_begin__voters, ne_Proposer_hear_promise_ballot, ne_Proposer_hear_promise_state, ne_Proposer_hear_promise__index, ne_Proposer_hear_promise__count, ne_Proposer_hear_promise__seen, ne_Proposer_hear_promise__next_slot, ne_Proposer_hear_promise__promises, ne_Proposer_hear_promise__proposals, ne_Proposer_hear_promise__voters, ne_Proposer__open_accepted_ballot, ne_Proposer__open_accepted_state, ne_Proposer__open_accepted__index, ne_Proposer__open_accepted__count, ne_Proposer__open_accepted__seen, ne_Proposer__open_accepted__next_slot, ne_Proposer__open_accepted__promises, ne_Proposer__open_accepted__proposals, ne_Proposer__open_accepted__voters, ne_Proposer__promised_pairs_ballot, ne_Proposer__promised_pairs_state, ne_Proposer__promised_pairs__index, ne_Proposer__promised_pairs__count, ne_Proposer__promised_pairs__seen, ne_Proposer__promised_pairs__next_slot, ne_Proposer__promised_pairs__promises, ne_Proposer__promised_pairs__proposals, ne_Proposer__promised_pairs__voters, ne_Proposer_propose_ballot, ne_Proposer_propose_state, ne_Proposer_propose__index, ne_Proposer_propose__count, ne_Proposer_propose__seen, ne_Proposer_propose__next_slot, ne_Proposer_propose__promises, ne_Proposer_propose__proposals, ne_Proposer_propose__voters, ne_Proposer_hear_accepted_ballot, ne_Proposer_hear_accepted_state, ne_Proposer_hear_accepted__index, ne_Proposer_hear_accepted__count, ne_Proposer_hear_accepted__seen, ne_Proposer_hear_accepted__next_slot, ne_Proposer_hear_accepted__promises, ne_Proposer_hear_accepted__proposals, ne_Proposer_hear_accepted__voters, ne_Proposer_open_proposals_ballot, ne_Proposer_open_proposals_state, ne_Proposer_open_proposals__index, ne_Proposer_open_proposals__count, ne_Proposer_open_proposals__seen, ne_Proposer_open_proposals__next_slot, ne_Proposer_open_proposals__promises, ne_Proposer_open_proposals__proposals, ne_Proposer_open_proposals__voters, ne_Proposer_stop_ballot, ne_Proposer_stop_state, ne_Proposer_stop__index, ne_Proposer_stop__count, ne_Proposer_stop__seen, ne_Proposer_stop__next_slot, ne_Proposer_stop__promises, ne_Proposer_stop__proposals, ne_Proposer_stop__voters, ne_Proposer__forget_proposals_ballot, ne_Proposer__forget_proposals_state, ne_Proposer__forget_proposals__index, ne_Proposer__forget_proposals__count, ne_Proposer__forget_proposals__seen, ne_Proposer__forget_proposals__next_slot, ne_Proposer__forget_proposals__promises, ne_Proposer__forget_proposals__proposals, ne_Proposer__forget_proposals__voters, ne_Proposer_ballot_state_p, ne_Proposer_ballot__index_p, ne_Proposer_ballot__count_p, ne_Proposer_ballot__seen_p, ne_Proposer_ballot__next_slot_p, ne_Proposer_ballot__promises_p, ne_Proposer_ballot__proposals_p, ne_Proposer_ballot__voters_p, ne_Proposer_state_ballot_p, ne_Proposer_state__index_p, ne_Proposer_state__count_p, ne_Proposer_state__seen_p, ne_Proposer_state__next_slot_p, ne_Proposer_state__promises_p, ne_Proposer_state__proposals_p, ne_Proposer_state__voters_p, ne_Proposer__index_ballot_p, ne_Proposer__index_state_p, ne_Proposer__index__count_p, ne_Proposer__index__seen_p, ne_Proposer__index__next_slot_p, ne_Proposer__index__promises_p, ne_Proposer__index__proposals_p, ne_Proposer__index__voters_p, ne_Proposer__count_ballot_p, ne_Proposer__count_state_p, ne_Proposer__count__index_p, ne_Proposer__count__seen_p, ne_Proposer__count__next_slot_p, ne_Proposer__count__promises_p, ne_Proposer__count__proposals_p, ne_Proposer__count__voters_p, ne_Proposer__seen_ballot_p, ne_Proposer__seen_state_p, ne_Proposer__seen__index_p, ne_Proposer__seen__count_p, ne_Proposer__seen__next_slot_p, ne_Proposer__seen__promises_p, ne_Proposer__seen__proposals_p, ne_Proposer__seen__voters_p, ne_Proposer__next_slot_ballot_p, ne_Proposer__next_slot_state_p, ne_Proposer__next_slot__index_p, ne_Proposer__next_slot__count_p, ne_Proposer__next_slot__seen_p, ne_Proposer__next_slot__promises_p, ne_Proposer__next_slot__proposals_p, ne_Proposer__next_slot__voters_p, ne_Proposer__promises_ballot_p, ne_Proposer__promises_state_p, ne_Proposer__promises__index_p, ne_Proposer__promises__count_p, ne_Proposer__promises__seen_p, ne_Proposer__promises__next_slot_p, ne_Proposer__promises__proposals_p, ne_Proposer__promises__voters_p, ne_Proposer__proposals_ballot_p, ne_Proposer__proposals_state_p, ne_Proposer__proposals__index_p, ne_Proposer__proposals__count_p, ne_Proposer__proposals__seen_p, ne_Proposer__proposals__next_slot_p, ne_Proposer__proposals__promises_p, ne_Proposer__proposals__voters_p, ne_Proposer__voters_ballot_p, ne_Proposer__voters_state_p, ne_Proposer__voters__index_p, ne_Proposer__voters__count_p, ne_Proposer__voters__seen_p, ne_Proposer__voters__next_slot_p, ne_Proposer__voters__promises_p, ne_Proposer__voters__proposals_p, ne_Proposer_saw_ballot_p, ne_Proposer_saw_state_p, ne_Proposer_saw__index_p, ne_Proposer_saw__count_p, ne_Proposer_saw__seen_p, ne_Proposer_saw__next_slot_p, ne_Proposer_saw__promises_p, ne_Proposer_saw__proposals_p, ne_Proposer_saw__voters_p, ne_Proposer_begin_ballot_p, ne_Proposer_begin_state_p, ne_Proposer_begin__index_p, ne_Proposer_begin__count_p, ne_Proposer_begin__seen_p, ne_Proposer_begin__next_slot_p, ne_Proposer_begin__promises_p, ne_Proposer_begin__proposals_p, ne_Proposer_begin__voters_p, ne_Proposer_hear_promise_ballot_p, ne_Proposer_hear_promise_state_p, ne_Proposer_hear_promise__index_p, ne_Proposer_hear_promise__count_p, ne_Proposer_hear_promise__seen_p, ne_Proposer_hear_promise__next_slot_p, ne_Proposer_hear_promise__promises_p, ne_Proposer_hear_promise__proposals_p, ne_Proposer_hear_promise__voters_p, ne_Proposer__open_accepted_ballot_p, ne_Proposer__open_accepted_state_p, ne_Proposer__open_accepted__index_p, ne_Proposer__open_accepted__count_p, ne_Proposer__open_accepted__seen_p, ne_Proposer__open_accepted__next_slot_p, ne_Proposer__open_accepted__promises_p, ne_Proposer__open_accepted__proposals_p, ne_Proposer__open_accepted__voters_p, ne_Proposer__promised_pairs_ballot_p, ne_Proposer__promised_pairs_state_p, ne_Proposer__promised_pairs__index_p, ne_Proposer__promised_pairs__count_p, ne_Proposer__promised_pairs__seen_p, ne_Proposer__promised_pairs__next_slot_p, ne_Proposer__promised_pairs__promises_p, ne_Proposer__promised_pairs__proposals_p, ne_Proposer__promised_pairs__voters_p, ne_Proposer_propose_ballot_p, ne_Proposer_propose_state_p, ne_Proposer_propose__index_p, ne_Proposer_propose__count_p, ne_Proposer_propose__seen_p, ne_Proposer_propose__next_slot_p, ne_Proposer_propose__promises_p, ne_Proposer_propose__proposals_p, ne_Proposer_propose__voters_p, ne_Proposer_hear_accepted_ballot_p, ne_Proposer_hear_accepted_state_p, ne_Proposer_hear_accepted__index_p, ne_Proposer_hear_accepted__count_p, ne_Proposer_hear_accepted__seen_p, ne_Proposer_hear_accepted__next_slot_p, ne_Proposer_hear_accepted__promises_p, ne_Proposer_hear_accepted__proposals_p, ne_Proposer_hear_accepted__voters_p, ne_Proposer_open_proposals_ballot_p, ne_Proposer_open_proposals_state_p, ne_Proposer_open_proposals__index_p, ne_Proposer_open_proposals__count_p, ne_Proposer_open_proposals__seen_p, ne_Proposer_open_proposals__next_slot_p, ne_Proposer_open_proposals__promises_p, ne_Proposer_open_proposals__proposals_p, ne_Proposer_open_proposals__voters_p, ne_Proposer_stop_ballot_p, ne_Proposer_stop_state_p, ne_Proposer_stop__index_p, ne_Proposer_stop__count_p, ne_Proposer_stop__seen_p, ne_Proposer_stop__next_slot_p, ne_Proposer_stop__promises_p, ne_Proposer_stop__proposals_p, ne_Proposer_stop__voters_p, ne_Proposer__forget_proposals_ballot_p, ne_Proposer__forget_proposals_state_p, ne_Proposer__forget_proposals__index_p, ne_Proposer__forget_proposals__count_p, ne_Proposer__forget_proposals__seen_p, ne_Proposer__forget_proposals__next_slot_p, ne_Proposer__forget_proposals__promises_p, ne_Proposer__forget_proposals__proposals_p, ne_Proposer__forget_proposals__voters_p]
theorem fl_Proposer__proposals {v0 v1 v2 v3 v4 v5 v6 v7 v8 : V} : (fl_Proposer v0 v1 v2 v3 v4 v5 v6 v7 v8).lookup ("_proposals" : Str) = some v7 := by unfold fl_Proposer; simp [List.lookup, ne_Proposer_ballot_state, ne_Proposer_ballot__index, ne_Proposer_ballot__count, ne_Proposer_ballot__seen, ne_Proposer_ballot__next_slot, ne_Proposer_ballot__promises, ne_Proposer_ballot__proposals, ne_Proposer_ballot__voters, ne_Proposer_state_ballot, ne_Proposer_state__index, ne_Proposer_state__count, ne_Proposer_state__seen, ne_Proposer_state__next_slot, ne_Proposer_state__promises, ne_Proposer_state__proposals, ne_Proposer_state__voters, ne_Proposer__index_ballot, ne_Proposer__index_state, ne_Proposer__index__count, ne_Proposer__index__seen, ne_Proposer__index__next_slot, ne_Proposer__index__promises, ne_Proposer__index__proposals, ne_Proposer__index__voters, ne_Proposer__count_ballot, ne_Proposer__count_state, ne_Proposer__count__index, ne_Proposer__count__seen, ne_Proposer__count__next_slot, ne_Proposer__count__promises, ne_Proposer__count__proposals, ne_Proposer__count__voters, ne_Proposer__seen_ballot, ne_Proposer__seen_state, ne_Proposer__seen__index, ne_Proposer__seen__count, ne_Proposer__seen__next_slot, ne_Proposer__seen__promises, ne_Proposer__seen__proposals, ne_Proposer__seen__voters, ne_Proposer__next_slot_ballot, ne_Proposer__next_slot_state, ne_Proposer__next_slot__index, ne_Proposer__next_slot__count, ne_Proposer__next_slot__seen, ne_Proposer__next_slot__promises, ne_Proposer__next_slot__proposals, ne_Proposer__next_slot__voters, ne_Proposer__promises_ballot, ne_Proposer__promises_state, ne_Proposer__promises__index, ne_Proposer__promises__count, ne_Proposer__promises__seen, ne_Proposer__promises__next_slot, ne_Proposer__promises__proposals, ne_Proposer__promises__voters, ne_Proposer__proposals_ballot, ne_Proposer__proposals_state, ne_Proposer__proposals__index, ne_Proposer__proposals__count, ne_Proposer__proposals__seen, ne_Proposer__proposals__next_slot, ne_Proposer__proposals__promises, ne_Proposer__proposals__voters, ne_Proposer__voters_ballot, ne_Proposer__voters_state, ne_Proposer__voters__index, ne_Proposer__voters__count, ne_Proposer__voters__seen, ne_Proposer__voters__next_slot, ne_Proposer__voters__promises, ne_Proposer__voters__proposals, ne_Proposer_saw_ballot, ne_Proposer_saw_state, ne_Proposer_saw__index, ne_Proposer_saw__count, ne_Proposer_saw__seen, ne_Proposer_saw__next_slot, ne_Proposer_saw__promises, ne_Proposer_saw__proposals, ne_Proposer_saw__voters, ne_Proposer_begin_ballot, ne_Proposer_begin_state, ne_Proposer_begin__index, ne_Proposer_begin__count, ne_Proposer_begin__seen, ne_Proposer_begin__next_slot, ne_Proposer_begin__promises, ne_Proposer_begin__proposals, ne_Proposer_begin__voters, ne_Proposer_hear_promise_ballot, ne_Proposer_hear_promise_state, ne_Proposer_hear_promise__index, ne_Proposer_hear_promise__count, ne_Proposer_hear_promise__seen, ne_Proposer_hear_promise__next_slot, ne_Proposer_hear_promise__promises, ne_Proposer_hear_promise__proposals, ne_Proposer_hear_promise__voters, ne_Proposer__open_accepted_ballot, ne_Proposer__open_accepted_state, ne_Proposer__open_accepted__index, ne_Proposer__open_accepted__count, ne_Proposer__open_accepted__seen, ne_Proposer__open_accepted__next_slot, ne_Proposer__open_accepted__promises, ne_Proposer__open_accepted__proposals, ne_Proposer__open_accepted__voters, ne_Proposer__promised_pairs_ballot, ne_Proposer__promised_pairs_state, ne_Proposer__promised_pairs__index, ne_Proposer__promised_pairs__count, ne_Proposer__promised_pairs__seen, ne_Proposer__promised_pairs__next_slot, ne_Proposer__promised_pairs__promises, ne_Proposer__promised_pairs__proposals, ne_Proposer__promised_pairs__voters, ne_Proposer_propose_ballot, ne_Proposer_propose_state, ne_Proposer_propose__index, ne_Proposer_propose__count, ne_Proposer_propose__seen, ne_Proposer_propose__next_slot, ne_Proposer_propose__promises, ne_Proposer_propose__proposals, ne_Proposer_propose__voters, ne_Proposer_hear_accepted_ballot, ne_Proposer_hear_accepted_state, ne_Proposer_hear_accepted__index, ne_Proposer_hear_accepted__count, ne_Proposer_hear_accepted__seen, ne_Proposer_hear_accepted__next_slot, ne_Proposer_hear_accepted__promises, ne_Proposer_hear_accepted__proposals, ne_Proposer_hear_accepted__voters, ne_Proposer_open_proposals_ballot, ne_Proposer_open_proposals_state, ne_Proposer_open_proposals__index, ne_Proposer_open_proposals__count, ne_Proposer_open_proposals__seen, ne_Proposer_open_proposals__next_slot, ne_Proposer_open_proposals__promises, ne_Proposer_open_proposals__proposals, ne_Proposer_open_proposals__voters, ne_Proposer_stop_ballot, ne_Proposer_stop_state, ne_Proposer_stop__index, ne_Proposer_stop__count, ne_Proposer_stop__seen, ne_Proposer_stop__next_slot, ne_Proposer_stop__promises, ne_Proposer_stop__proposals, ne_Proposer_stop__voters, ne_Proposer__forget_proposals_ballot, ne_Proposer__forget_proposals_state, ne_Proposer__forget_proposals__index, ne_Proposer__forget_proposals__count, ne_Proposer__forget_proposals__seen, ne_Proposer__forget_proposals__next_slot, ne_Proposer__forget_proposals__promises, ne_Proposer__forget_proposals__proposals, ne_Proposer__forget_proposals__voters, ne_Proposer_ballot_state_p, ne_Proposer_ballot__index_p, ne_Proposer_ballot__count_p, ne_Proposer_ballot__seen_p, ne_Proposer_ballot__next_slot_p, ne_Proposer_ballot__promises_p, ne_Proposer_ballot__proposals_p, ne_Proposer_ballot__voters_p, ne_Proposer_state_ballot_p, ne_Proposer_state__index_p, ne_Proposer_state__count_p, ne_Proposer_state__seen_p, ne_Proposer_state__next_slot_p, ne_Proposer_state__promises_p, ne_Proposer_state__proposals_p, ne_Proposer_state__voters_p, ne_Proposer__index_ballot_p, ne_Proposer__index_state_p, ne_Proposer__index__count_p, ne_Proposer__index__seen_p, ne_Proposer__index__next_slot_p, ne_Proposer__index__promises_p, ne_Proposer__index__proposals_p, ne_Proposer__index__voters_p, ne_Proposer__count_ballot_p, ne_Proposer__count_state_p, ne_Proposer__count__index_p, ne_Proposer__count__seen_p, ne_Proposer__count__next_slot_p, ne_Proposer__count__promises_p, ne_Proposer__count__proposals_p, ne_Proposer__count__voters_p, ne_Proposer__seen_ballot_p, ne_Proposer__seen_state_p, ne_Proposer__seen__index_p, ne_Proposer__seen__count_p, ne_Proposer__seen__next_slot_p, ne_Proposer__seen__promises_p, ne_Proposer__seen__proposals_p, ne_Proposer__seen__voters_p, ne_Proposer__next_slot_ballot_p, ne_Proposer__next_slot_state_p, ne_Proposer__next_slot__index_p, ne_Proposer__next_slot__count_p, ne_Proposer__next_slot__seen_p, ne_Proposer__next_slot__promises_p, ne_Proposer__next_slot__proposals_p, ne_Proposer__next_slot__voters_p, ne_Proposer__promises_ballot_p, ne_Proposer__promises_state_p, ne_Proposer__promises__index_p, ne_Proposer__promises__count_p, ne_Proposer__promises__seen_p, ne_Proposer__promises__next_slot_p, ne_Proposer__promises__proposals_p, ne_Proposer__promises__voters_p, ne_Proposer__proposals_ballot_p, ne_Proposer__proposals_state_p, ne_Proposer__proposals__index_p, ne_Proposer__proposals__count_p, ne_Proposer__proposals__seen_p, ne_Proposer__proposals__next_slot_p, ne_Proposer__proposals__promises_p, ne_Proposer__proposals__voters_p, ne_Proposer__voters_ballot_p, ne_Proposer__voters_state_p, ne_Proposer__voters__index_p, ne_Proposer__voters__count_p, ne_Proposer__voters__seen_p, ne_Proposer__voters__next_slot_p, ne_Proposer__voters__promises_p, ne_Proposer__voters__proposals_p, ne_Proposer_saw_ballot_p, ne_Proposer_saw_state_p, ne_Proposer_saw__index_p, ne_Proposer_saw__count_p, ne_Proposer_saw__seen_p, ne_Proposer_saw__next_slot_p, ne_Proposer_saw__promises_p, ne_Proposer_saw__proposals_p, ne_Proposer_saw__voters_p, ne_Proposer_begin_ballot_p, ne_Proposer_begin_state_p, ne_Proposer_begin__index_p, ne_Proposer_begin__count_p, ne_Proposer_begin__seen_p, ne_Proposer_begin__next_slot_p, ne_Proposer_begin__promises_p, ne_Proposer_begin__proposals_p, ne_Proposer_begin__voters_p, ne_Proposer_hear_promise_ballot_p, ne_Proposer_hear_promise_state_p, ne_Proposer_hear_promise__index_p, ne_Proposer_hear_promise__count_p, ne_Proposer_hear_promise__seen_p, ne_Proposer_hear_promise__next_slot_p, ne_Proposer_hear_promise__promises_p, ne_Proposer_hear_promise__proposals_p, ne_Proposer_hear_promise__voters_p, ne_Proposer__open_accepted_ballot_p, ne_Proposer__open_accepted_state_p, ne_Proposer__open_accepted__index_p, ne_Proposer__open_accepted__count_p, ne_Proposer__open_accepted__seen_p, ne_Proposer__open_accepted__next_slot_p, ne_Proposer__open_accepted__promises_p, ne_Proposer__open_accepted__proposals_p, ne_Proposer__open_accepted__voters_p, ne_Proposer__promised_pairs_ballot_p, ne_Proposer__promised_pairs_state_p, ne_Proposer__promised_pairs__index_p, ne_Proposer__promised_pairs__count_p, ne_Proposer__promised_pairs__seen_p, ne_Proposer__promised_pairs__next_slot_p, ne_Proposer__promised_pairs__promises_p, ne_Proposer__promised_pairs__proposals_p, ne_Proposer__promised_pairs__voters_p, ne_Proposer_propose_ballot_p, ne_Proposer_propose_state_p, ne_Proposer_propose__index_p, ne_Proposer_propose__count_p, ne_Proposer_propose__seen_p, ne_Proposer_propose__next_slot_p, ne_Proposer_propose__promises_p, ne_Proposer_propose__proposals_p, ne_Proposer_propose__voters_p, ne_Proposer_hear_accepted_ballot_p, ne_Proposer_hear_accepted_state_p, ne_Proposer_hear_accepted__index_p, ne_Proposer_hear_accepted__count_p, ne_Proposer_hear_accepted__seen_p, ne_Proposer_hear_accepted__next_slot_p, ne_Proposer_hear_accepted__promises_p, ne_Proposer_hear_accepted__proposals_p, ne_Proposer_hear_accepted__voters_p, ne_Proposer_open_proposals_ballot_p, ne_Proposer_open_proposals_state_p, ne_Proposer_open_proposals__index_p, ne_Proposer_open_proposals__count_p, ne_Proposer_open_proposals__seen_p, ne_Proposer_open_proposals__next_slot_p, ne_Proposer_open_proposals__promises_p, ne_Proposer_open_proposals__proposals_p, ne_Proposer_open_proposals__voters_p, ne_Proposer_stop_ballot_p, ne_Proposer_stop_state_p, ne_Proposer_stop__index_p, ne_Proposer_stop__count_p, ne_Proposer_stop__seen_p, ne_Proposer_stop__next_slot_p, ne_Proposer_stop__promises_p, ne_Proposer_stop__proposals_p, ne_Proposer_stop__voters_p, ne_Proposer__forget_proposals_ballot_p, ne_Proposer__forget_proposals_state_p, ne_Proposer__forget_proposals__index_p, ne_Proposer__forget_proposals__count_p, ne_Proposer__forget_proposals__seen_p, ne_Proposer__forget_proposals__next_slot_p, ne_Proposer__forget_proposals__promises_p, ne_Proposer__forget_proposals__proposals_p, ne_Proposer__forget_proposals__voters_p]
theorem pf_Proposer__proposals {v0 v1 v2 v3 v4 v5 v6 v7 v8 x : V} : putF ("_proposals" : Str) x (fl_Proposer v0 v1 v2 v3 v4 v5 v6 v7 v8) = fl_Proposer v0 v1 v2 v3 v4 v5 v6 x v8 := by unfold fl_Proposer; simp [putF, ne_Proposer_ballot_state, ne_Proposer_ballot__index, ne_Proposer_ballot__count, ne_Proposer_ballot__seen, ne_Proposer_ballot__next_slot, ne_Proposer_ballot__promises, ne_Proposer_ballot__proposals, ne_Proposer_ballot__voters, ne_Proposer_state_ballot, ne_Proposer_state__index, ne_Proposer_state__count, ne_Proposer_state__seen, ne_Proposer_state__next_slot, ne_Proposer_state__promises, ne_Proposer_state__proposals, ne_Proposer_state__voters, ne_Proposer__index_ballot, ne_Proposer__index_state, ne_Proposer__index__count, ne_Proposer__index__seen, ne_Proposer__index__next_slot, ne_Proposer__index__promises, ne_Proposer__index__proposals, ne_Proposer__index__voters, ne_Proposer__count_ballot, ne_Proposer__count_state, ne_Proposer__count__index, ne_Proposer__count__seen, ne_Proposer__count__next_slot, ne_Proposer__count__promises, ne_Proposer__count__proposals, ne_Proposer__count__voters, ne_Proposer__seen_ballot, ne_Proposer__seen_state, ne_Proposer__seen__index, ne_Proposer__seen__count, ne_Proposer__seen__next_slot, ne_Proposer__seen__promises, ne_Proposer__seen__proposals, ne_Proposer__seen__voters, ne_Proposer__next_slot_ballot, ne_Proposer__next_slot_state, ne_Proposer__next_slot__index, ne_Proposer__next_slot__count, ne_Proposer__next_slot__seen, ne_Proposer__next_slot__promises, ne_Proposer__next_slot__proposals, ne_Proposer__next_slot__voters, ne_Proposer__promises_ballot, ne_Proposer__promises_state, ne_Proposer__promises__index, ne_Proposer__promises__count, ne_Proposer__promises__seen, ne_Proposer__promises__next_slot, ne_Proposer__promises__proposals, ne_Proposer__promises__voters, ne_Proposer__proposals_ballot, ne_Proposer__proposals_state, ne_Proposer__proposals__index, ne_Proposer__proposals__count, ne_Proposer__proposals__seen, ne_Proposer__proposals__next_slot, ne_Proposer__proposals__promises, ne_Proposer__proposals__voters, ne_Proposer__voters_ballot, ne_Proposer__voters_state, ne_Proposer__voters__index, ne_Proposer__voters__count, ne_Proposer__voters__seen, ne_Proposer__voters__next_slot, ne_Proposer__voters__promises, ne_Proposer__voters__proposals, ne_Proposer_saw_ballot, ne_Proposer_saw_state, ne_Proposer_saw__index, ne_Proposer_saw__count, ne_Proposer_saw__seen, ne_Proposer_saw__next_slot, ne_Proposer_saw__promises, ne_Proposer_saw__proposals, ne_Proposer_saw__voters, ne_Proposer_begin_ballot, ne_Proposer_begin_state, ne_Proposer_begin__index, ne_Proposer_begin__count, ne_Proposer_begin__seen, ne_Proposer_begin__next_slot, ne_Proposer_begin__promises, ne_Proposer_begin__proposals, ne_Proposer_begin__voters, ne_Proposer_hear_promise_ballot, ne_Proposer_hear_promise_state, ne_Proposer_hear_promise__index, ne_Proposer_hear_promise__count, ne_Proposer_hear_promise__seen, ne_Proposer_hear_promise__next_slot, ne_Proposer_hear_promise__promises, ne_Proposer_hear_promise__proposals, ne_Proposer_hear_promise__voters, ne_Proposer__open_accepted_ballot, ne_Proposer__open_accepted_state, ne_Proposer__open_accepted__index, ne_Proposer__open_accepted__count, ne_Proposer__open_accepted__seen, ne_Proposer__open_accepted__next_slot, ne_Proposer__open_accepted__promises, ne_Proposer__open_accepted__proposals, ne_Proposer__open_accepted__voters, ne_Proposer__promised_pairs_ballot, ne_Proposer__promised_pairs_state, ne_Proposer__promised_pairs__index, ne_Proposer__promised_pairs__count, ne_Proposer__promised_pairs__seen, ne_Proposer__promised_pairs__next_slot, ne_Proposer__promised_pairs__promises, ne_Proposer__promised_pairs__proposals, ne_Proposer__promised_pairs__voters, ne_Proposer_propose_ballot, ne_Proposer_propose_state, ne_Proposer_propose__index, ne_Proposer_propose__count, ne_Proposer_propose__seen, ne_Proposer_propose__next_slot, ne_Proposer_propose__promises, ne_Proposer_propose__proposals, ne_Proposer_propose__voters, ne_Proposer_hear_accepted_ballot, ne_Proposer_hear_accepted_state, ne_Proposer_hear_accepted__index, ne_Proposer_hear_accepted__count, ne_Proposer_hear_accepted__seen, ne_Proposer_hear_accepted__next_slot, ne_Proposer_hear_accepted__promises, ne_Proposer_hear_accepted__proposals, ne_Proposer_hear_accepted__voters, ne_Proposer_open_proposals_ballot, ne_Proposer_open_proposals_state, ne_Proposer_open_proposals__index, ne_Proposer_open_proposals__count, ne_Proposer_open_proposals__seen, ne_Proposer_open_proposals__next_slot, ne_Proposer_open_proposals__promises, ne_Proposer_open_proposals__proposals, ne_Proposer_open_proposals__voters, ne_Proposer_stop_ballot, ne_Proposer_stop_state, ne_Proposer_stop__index, ne_Proposer_stop__count, ne_Proposer_stop__seen, ne_Proposer_stop__next_slot, ne_Proposer_stop__promises, ne_Proposer_stop__proposals, ne_Proposer_stop__voters, ne_Proposer__forget_proposals_ballot, ne_Proposer__forget_proposals_state, ne_Proposer__forget_proposals__index, ne_Proposer__forget_proposals__count, ne_Proposer__forget_proposals__seen, ne_Proposer__forget_proposals__next_slot, ne_Proposer__forget_proposals__promises, ne_Proposer__forget_proposals__proposals, ne_Proposer__forget_proposals__voters, ne_Proposer_ballot_state_p, ne_Proposer_ballot__index_p, ne_Proposer_ballot__count_p, ne_Proposer_ballot__seen_p, ne_Proposer_ballot__next_slot_p, ne_Proposer_ballot__promises_p, ne_Proposer_ballot__proposals_p, ne_Proposer_ballot__voters_p, ne_Proposer_state_ballot_p, ne_Proposer_state__index_p, ne_Proposer_state__count_p, ne_Proposer_state__seen_p, ne_Proposer_state__next_slot_p, ne_Proposer_state__promises_p, ne_Proposer_state__proposals_p, ne_Proposer_state__voters_p, ne_Proposer__index_ballot_p, ne_Proposer__index_state_p, ne_Proposer__index__count_p, ne_Proposer__index__seen_p, ne_Proposer__index__next_slot_p, ne_Proposer__index__promises_p, ne_Proposer__index__proposals_p, ne_Proposer__index__voters_p, ne_Proposer__count_ballot_p, ne_Proposer__count_state_p, ne_Proposer__count__index_p, ne_Proposer__count__seen_p, ne_Proposer__count__next_slot_p, ne_Proposer__count__promises_p, ne_Proposer__count__proposals_p, ne_Proposer__count__voters_p, ne_Proposer__seen_ballot_p, ne_Proposer__seen_state_p, ne_Proposer__seen__index_p, ne_Proposer__seen__count_p, ne_Proposer__seen__next_slot_p, ne_Proposer__seen__promises_p, ne_Proposer__seen__proposals_p, ne_Proposer__seen__voters_p, ne_Proposer__next_slot_ballot_p, ne_Proposer__next_slot_state_p, ne_Proposer__next_slot__index_p, ne_Proposer__next_slot__count_p, ne_Proposer__next_slot__seen_p, ne_Proposer__next_slot__promises_p, ne_Proposer__next_slot__proposals_p, ne_Proposer__next_slot__voters_p, ne_Proposer__promises_ballot_p, ne_Proposer__promises_state_p, ne_Proposer__promises__index_p, ne_Proposer__promises__count_p, ne_Proposer__promises__seen_p, ne_Proposer__promises__next_slot_p, ne_Proposer__promises__proposals_p, ne_Proposer__promises__voters_p, ne_Proposer__proposals_ballot_p, ne_Proposer__proposals_state_p, ne_Proposer__proposals__index_p, ne_Proposer__proposals__count_p, ne_Proposer__proposals__seen_p, ne_Proposer__proposals__next_slot_p, ne_Proposer__proposals__promises_p, ne_Proposer__proposals__voters_p, ne_Proposer__voters_ballot_p, ne_Proposer__voters_state_p, ne_Proposer__voters__index_p, ne_Proposer__voters__count_p, ne_Proposer__voters__seen_p, ne_Proposer__voters__next_slot_p, ne_Proposer__voters__promises_p, ne_Proposer__voters__proposals_p, ne_Proposer_saw_ballot_p, ne_Proposer_saw_state_p, ne_Proposer_saw__index_p, ne_Proposer_saw__count_p, ne_Proposer_saw__seen_p, ne_Proposer_saw__next_slot_p, ne_Proposer_saw__promises_p, ne_Proposer_saw__proposals_p, ne_Proposer_saw__voters_p, ne_Proposer_begin_ballot_p, ne_Proposer_begin_state_p, ne_Proposer_begin__index_p, ne_Proposer_begin__count_p, ne_Proposer_begin__seen_p, ne_Proposer_begin__next_slot_p, ne_Proposer_begin__promises_p, ne_Proposer_begin__proposals_p, ne_Proposer_begin__voters_p, ne_Proposer_hear_promise_ballot_p, ne_Proposer_hear_promise_state_p, ne_Proposer_hear_promise__index_p, ne_Proposer_hear_promise__count_p, ne_Proposer_hear_promise__seen_p, ne_Proposer_hear_promise__next_slot_p, ne_Proposer_hear_promise__promises_p, ne_Proposer_hear_promise__proposals_p, ne_Proposer_hear_promise__voters_p, ne_Proposer__open_accepted_ballot_p, ne_Proposer__open_accepted_state_p, ne_Proposer__open_accepted__index_p, ne_Proposer__open_accepted__count_p, ne_Proposer__open_accepted__seen_p, ne_Proposer__open_accepted__next_slot_p, ne_Proposer__open_accepted__promises_p, ne_Proposer__open_accepted__proposals_p, ne_Proposer__open_accepted__voters_p, ne_Proposer__promised_pairs_ballot_p, ne_Proposer__promised_pairs_state_p, ne_Proposer__promised_pairs__index_p, ne_Proposer__promised_pairs__count_p, ne_Proposer__promised_pairs__seen_p, ne_Proposer__promised_pairs__next_slot_p, ne_Proposer__promised_pairs__promises_p, ne_Proposer__promised_pairs__proposals_p, ne_Proposer__promised_pairs__voters_p, ne_Proposer_propose_ballot_p, ne_Proposer_propose_state_p, ne_Proposer_propose__index_p, ne_Proposer_propose__count_p, ne_Proposer_propose__seen_p, ne_Proposer_propose__next_slot_p, ne_Proposer_propose__promises_p, ne_Proposer_propose__proposals_p, ne_Proposer_propose__voters_p, ne_Proposer_hear_accepted_ballot_p, ne_Proposer_hear_accepted_state_p, ne_Proposer_hear_accepted__index_p, ne_Proposer_hear_accepted__count_p, ne_Proposer_hear_accepted__seen_p, ne_Proposer_hear_accepted__next_slot_p, ne_Proposer_hear_accepted__promises_p, ne_Proposer_hear_accepted__proposals_p, ne_Proposer_hear_accepted__voters_p, ne_Proposer_open_proposals_ballot_p, ne_Proposer_open_proposals_state_p, ne_Proposer_open_proposals__index_p, ne_Proposer_open_proposals__count_p, ne_Proposer_open_proposals__seen_p, ne_Proposer_open_proposals__next_slot_p, ne_Proposer_open_proposals__promises_p, ne_Proposer_open_proposals__proposals_p, ne_Proposer_open_proposals__voters_p, ne_Proposer_stop_ballot_p, ne_Proposer_stop_state_p, ne_Proposer_stop__index_p, ne_Proposer_stop__count_p, ne_Proposer_stop__seen_p, ne_Proposer_stop__next_slot_p, ne_Proposer_stop__promises_p, ne_Proposer_stop__proposals_p, ne_Proposer_stop__voters_p, ne_Proposer__forget_proposals_ballot_p, ne_Proposer__forget_proposals_state_p, ne_Proposer__forget_proposals__index_p, ne_Proposer__forget_proposals__count_p, ne_Proposer__forget_proposals__seen_p, ne_Proposer__forget_proposals__next_slot_p, ne_Proposer__forget_proposals__promises_p, ne_Proposer__forget_proposals__proposals_p, ne_Proposer__forget_proposals__voters_p]
theorem fl_Proposer__voters {v0 v1 v2 v3 v4 v5 v6 v7 v8 : V} : (fl_Proposer v0 v1 v2 v3 v4 v5 v6 v7 v8).lookup ("_voters" : Str) = some v8 := by unfold fl_Proposer; simp [List.lookup, ne_Proposer_ballot_state, ne_Proposer_ballot__index, ne_Proposer_ballot__count, ne_Proposer_ballot__seen, ne_Proposer_ballot__next_slot, ne_Proposer_ballot__promises, ne_Proposer_ballot__proposals, ne_Proposer_ballot__voters, ne_Proposer_state_ballot, ne_Proposer_state__index, ne_Proposer_state__count, ne_Proposer_state__seen, ne_Proposer_state__next_slot, ne_Proposer_state__promises, ne_Proposer_state__proposals, ne_Proposer_state__voters, ne_Proposer__index_ballot, ne_Proposer__index_state, ne_Proposer__index__count, ne_Proposer__index__seen, ne_Proposer__index__next_slot, ne_Proposer__index__promises, ne_Proposer__index__proposals, ne_Proposer__index__voters, ne_Proposer__count_ballot, ne_Proposer__count_state, ne_Proposer__count__index, ne_Proposer__count__seen, ne_Proposer__count__next_slot, ne_Proposer__count__promises, ne_Proposer__count__proposals, ne_Proposer__count__voters, ne_Proposer__seen_ballot, ne_Proposer__seen_state, ne_Proposer__seen__index, ne_Proposer__seen__count, ne_Proposer__seen__next_slot, ne_Proposer__seen__promises, ne_Proposer__seen__proposals, ne_Proposer__seen__voters, ne_Proposer__next_slot_ballot, ne_Proposer__next_slot_state, ne_Proposer__next_slot__index, ne_Proposer__next_slot__count, ne_Proposer__next_slot__seen, ne_Proposer__next_slot__promises, ne_Proposer__next_slot__proposals, ne_Proposer__next_slot__voters, ne_Proposer__promises_ballot, ne_Proposer__promises_state, ne_Proposer__promises__index, ne_Proposer__promises__count, ne_Proposer__promises__seen, ne_Proposer__promises__next_slot, ne_Proposer__promises__proposals, ne_Proposer__promises__voters, ne_Proposer__proposals_ballot, ne_Proposer__proposals_state, ne_Proposer__proposals__index, ne_Proposer__proposals__count, ne_Proposer__proposals__seen, ne_Proposer__proposals__next_slot, ne_Proposer__proposals__promises, ne_Proposer__proposals__voters, ne_Proposer__voters_ballot, ne_Proposer__voters_state, ne_Proposer__voters__index, ne_Proposer__voters__count, ne_Proposer__voters__seen, ne_Proposer__voters__next_slot, ne_Proposer__voters__promises, ne_Proposer__voters__proposals, ne_Proposer_saw_ballot, ne_Proposer_saw_state, ne_Proposer_saw__index, ne_Proposer_saw__count, ne_Proposer_saw__seen, ne_Proposer_saw__next_slot, ne_Proposer_saw__promises, ne_Proposer_saw__proposals, ne_Proposer_saw__voters, ne_Proposer_begin_ballot, ne_Proposer_begin_state, ne_Proposer_begin__index, ne_Proposer_begin__count, ne_Proposer_begin__seen, ne_Proposer_begin__next_slot, ne_Proposer_begin__promises, ne_Proposer_begin__proposals, ne_Proposer_begin__voters, ne_Proposer_hear_promise_ballot, ne_Proposer_hear_promise_state, ne_Proposer_hear_promise__index, ne_Proposer_hear_promise__count, ne_Proposer_hear_promise__seen, ne_Proposer_hear_promise__next_slot, ne_Proposer_hear_promise__promises, ne_Proposer_hear_promise__proposals, ne_Proposer_hear_promise__voters, ne_Proposer__open_accepted_ballot, ne_Proposer__open_accepted_state, ne_Proposer__open_accepted__index, ne_Proposer__open_accepted__count, ne_Proposer__open_accepted__seen, ne_Proposer__open_accepted__next_slot, ne_Proposer__open_accepted__promises, ne_Proposer__open_accepted__proposals, ne_Proposer__open_accepted__voters, ne_Proposer__promised_pairs_ballot, ne_Proposer__promised_pairs_state, ne_Proposer__promised_pairs__index, ne_Proposer__promised_pairs__count, ne_Proposer__promised_pairs__seen, ne_Proposer__promised_pairs__next_slot, ne_Proposer__promised_pairs__promises, ne_Proposer__promised_pairs__proposals, ne_Proposer__promised_pairs__voters, ne_Proposer_propose_ballot, ne_Proposer_propose_state, ne_Proposer_propose__index, ne_Proposer_propose__count, ne_Proposer_propose__seen, ne_Proposer_propose__next_slot, ne_Proposer_propose__promises, ne_Proposer_propose__proposals, ne_Proposer_propose__voters, ne_Proposer_hear_accepted_ballot, ne_Proposer_hear_accepted_state, ne_Proposer_hear_accepted__index, ne_Proposer_hear_accepted__count, ne_Proposer_hear_accepted__seen, ne_Proposer_hear_accepted__next_slot, ne_Proposer_hear_accepted__promises, ne_Proposer_hear_accepted__proposals, ne_Proposer_hear_accepted__voters, ne_Proposer_open_proposals_ballot, ne_Proposer_open_proposals_state, ne_Proposer_open_proposals__index, ne_Proposer_open_proposals__count, ne_Proposer_open_proposals__seen, ne_Proposer_open_proposals__next_slot, ne_Proposer_open_proposals__promises, ne_Proposer_open_proposals__proposals, ne_Proposer_open_proposals__voters, ne_Proposer_stop_ballot, ne_Proposer_stop_state, ne_Proposer_stop__index, ne_Proposer_stop__count, ne_Proposer_stop__seen, ne_Proposer_stop__next_slot, ne_Proposer_stop__promises, ne_Proposer_stop__proposals, ne_Proposer_stop__voters, ne_Proposer__forget_proposals_ballot, ne_Proposer__forget_proposals_state, ne_Proposer__forget_proposals__index, ne_Proposer__forget_proposals__count, ne_Proposer__forget_proposals__seen, ne_Proposer__forget_proposals__next_slot, ne_Proposer__forget_proposals__promises, ne_Proposer__forget_proposals__proposals, ne_Proposer__forget_proposals__voters, ne_Proposer_ballot_state_p, ne_Proposer_ballot__index_p, ne_Proposer_ballot__count_p, ne_Proposer_ballot__seen_p, ne_Proposer_ballot__next_slot_p, ne_Proposer_ballot__promises_p, ne_Proposer_ballot__proposals_p, ne_Proposer_ballot__voters_p, ne_Proposer_state_ballot_p, ne_Proposer_state__index_p, ne_Proposer_state__count_p, ne_Proposer_state__seen_p, ne_Proposer_state__next_slot_p, ne_Proposer_state__promises_p, ne_Proposer_state__proposals_p, ne_Proposer_state__voters_p, ne_Proposer__index_ballot_p, ne_Proposer__index_state_p, ne_Proposer__index__count_p, ne_Proposer__index__seen_p, ne_Proposer__index__next_slot_p, ne_Proposer__index__promises_p, ne_Proposer__index__proposals_p, ne_Proposer__index__voters_p, ne_Proposer__count_ballot_p, ne_Proposer__count_state_p, ne_Proposer__count__index_p, ne_Proposer__count__seen_p, ne_Proposer__count__next_slot_p, ne_Proposer__count__promises_p, ne_Proposer__count__proposals_p, ne_Proposer__count__voters_p, ne_Proposer__seen_ballot_p, ne_Proposer__seen_state_p, ne_Proposer__seen__index_p, ne_Proposer__seen__count_p, ne_Proposer__seen__next_slot_p, ne_Proposer__seen__promises_p, ne_Proposer__seen__proposals_p, ne_Proposer__seen__voters_p, ne_Proposer__next_slot_ballot_p, ne_Proposer__next_slot_state_p, ne_Proposer__next_slot__index_p, ne_Proposer__next_slot__count_p, ne_Proposer__next_slot__seen_p, ne_Proposer__next_slot__promises_p, ne_Proposer__next_slot__proposals_p, ne_Proposer__next_slot__voters_p, ne_Proposer__promises_ballot_p, ne_Proposer__promises_state_p, ne_Proposer__promises__index_p, ne_Proposer__promises__count_p, ne_Proposer__promises__seen_p, ne_Proposer__promises__next_slot_p, ne_Proposer__promises__proposals_p, ne_Proposer__promises__voters_p, ne_Proposer__proposals_ballot_p, ne_Proposer__proposals_state_p, ne_Proposer__proposals__index_p, ne_Proposer__proposals__count_p, ne_Proposer__proposals__seen_p, ne_Proposer__proposals__next_slot_p, ne_Proposer__proposals__promises_p, ne_Proposer__proposals__voters_p, ne_Proposer__voters_ballot_p, ne_Proposer__voters_state_p, ne_Proposer__voters__index_p, ne_Proposer__voters__count_p, ne_Proposer__voters__seen_p, ne_Proposer__voters__next_slot_p, ne_Proposer__voters__promises_p, ne_Proposer__voters__proposals_p, ne_Proposer_saw_ballot_p, ne_Proposer_saw_state_p, ne_Proposer_saw__index_p, ne_Proposer_saw__count_p, ne_Proposer_saw__seen_p, ne_Proposer_saw__next_slot_p, ne_Proposer_saw__promises_p, ne_Proposer_saw__proposals_p, ne_Proposer_saw__voters_p, ne_Proposer_begin_ballot_p, ne_Proposer_begin_state_p, ne_Proposer_begin__index_p, ne_Proposer_begin__count_p, ne_Proposer_begin__seen_p, ne_Proposer_begin__next_slot_p, ne_Proposer_begin__promises_p, ne_Proposer_begin__proposals_p, ne_Proposer_begin__voters_p, ne_Proposer_hear_promise_ballot_p, ne_Proposer_hear_promise_state_p, ne_Proposer_hear_promise__index_p, ne_Proposer_hear_promise__count_p, ne_Proposer_hear_promise__seen_p, ne_Proposer_hear_promise__next_slot_p, ne_Proposer_hear_promise__promises_p, ne_Proposer_hear_promise__proposals_p, ne_Proposer_hear_promise__voters_p, ne_Proposer__open_accepted_ballot_p, ne_Proposer__open_accepted_state_p, ne_Proposer__open_accepted__index_p, ne_Proposer__open_accepted__count_p, ne_Proposer__open_accepted__seen_p, ne_Proposer__open_accepted__next_slot_p, ne_Proposer__open_accepted__promises_p, ne_Proposer__open_accepted__proposals_p, ne_Proposer__open_accepted__voters_p, ne_Proposer__promised_pairs_ballot_p, ne_Proposer__promised_pairs_state_p, ne_Proposer__promised_pairs__index_p, ne_Proposer__promised_pairs__count_p, ne_Proposer__promised_pairs__seen_p, ne_Proposer__promised_pairs__next_slot_p, ne_Proposer__promised_pairs__promises_p, ne_Proposer__promised_pairs__proposals_p, ne_Proposer__promised_pairs__voters_p, ne_Proposer_propose_ballot_p, ne_Proposer_propose_state_p, ne_Proposer_propose__index_p, ne_Proposer_propose__count_p, ne_Proposer_propose__seen_p, ne_Proposer_propose__next_slot_p, ne_Proposer_propose__promises_p, ne_Proposer_propose__proposals_p, ne_Proposer_propose__voters_p, ne_Proposer_hear_accepted_ballot_p, ne_Proposer_hear_accepted_state_p, ne_Proposer_hear_accepted__index_p, ne_Proposer_hear_accepted__count_p, ne_Proposer_hear_accepted__seen_p, ne_Proposer_hear_accepted__next_slot_p, ne_Proposer_hear_accepted__promises_p, ne_Proposer_hear_accepted__proposals_p, ne_Proposer_hear_accepted__voters_p, ne_Proposer_open_proposals_ballot_p, ne_Proposer_open_proposals_state_p, ne_Proposer_open_proposals__index_p, ne_Proposer_open_proposals__count_p, ne_Proposer_open_proposals__seen_p, ne_Proposer_open_proposals__next_slot_p, ne_Proposer_open_proposals__promises_p, ne_Proposer_open_proposals__proposals_p, ne_Proposer_open_proposals__voters_p, ne_Proposer_stop_ballot_p, ne_Proposer_stop_state_p, ne_Proposer_stop__index_p, ne_Proposer_stop__count_p, ne_Proposer_stop__seen_p, ne_Proposer_stop__next_slot_p, ne_Proposer_stop__promises_p, ne_Proposer_stop__proposals_p, ne_Proposer_stop__voters_p, ne_Proposer__forget_proposals_ballot_p, ne_Proposer__forget_proposals_state_p, ne_Proposer__forget_proposals__index_p, ne_Proposer__forget_proposals__count_p, ne_Proposer__forget_proposals__seen_p, ne_Proposer__forget_proposals__next_slot_p, ne_Proposer__forget_proposals__promises_p, ne_Proposer__forget_proposals__proposals_p, ne_Proposer__forget_proposals__voters_p]
theorem pf_Proposer__voters {v0 v1 v2 v3 v4 v5 v6 v7 v8 x : V} : putF ("_voters" : Str) x (fl_Proposer v0 v1 v2 v3 v4 v5 v6 v7 v8) = fl_Proposer v0 v1 v2 v3 v4 v5 v6 v7 x := by unfold fl_Proposer; simp [putF, ne_Proposer_ballot_state, ne_Proposer_ballot__index, ne_Proposer_ballot__count, ne_Proposer_ballot__seen, ne_Proposer_ballot__next_slot, ne_Proposer_ballot__promises, ne_Proposer_ballot__proposals, ne_Proposer_ballot__voters, ne_Proposer_state_ballot, ne_Proposer_state__index, ne_Proposer_state__count, ne_Proposer_state__seen, ne_Proposer_state__next_slot, ne_Proposer_state__promises, ne_Proposer_state__proposals, ne_Proposer_state__voters, ne_Proposer__index_ballot, ne_Proposer__index_state, ne_Proposer__index__count, ne_Proposer__index__seen, ne_Proposer__index__next_slot, ne_Proposer__index__promises, ne_Proposer__index__proposals, ne_Proposer__index__voters, ne_Proposer__count_ballot, ne_Proposer__count_state, ne_Proposer__count__index, ne_Proposer__count__seen, ne_Proposer__count__next_slot, ne_Proposer__count__promises, ne_Proposer__count__proposals, ne_Proposer__count__voters, ne_Proposer__seen_ballot, ne_Proposer__seen_state, ne_Proposer__seen__index, ne_Proposer__seen__count, ne_Proposer__seen__next_slot, ne_Proposer__seen__promises, ne_Proposer__seen__proposals, ne_Proposer__seen__voters, ne_Proposer__next_slot_ballot, ne_Proposer__next_slot_state, ne_Proposer__next_slot__index, ne_Proposer__next_slot__count, ne_Proposer__next_slot__seen, ne_Proposer__next_slot__promises, ne_Proposer__next_slot__proposals, ne_Proposer__next_slot__voters, ne_Proposer__promises_ballot, ne_Proposer__promises_state, ne_Proposer__promises__index, ne_Proposer__promises__count, ne_Proposer__promises__seen, ne_Proposer__promises__next_slot, ne_Proposer__promises__proposals, ne_Proposer__promises__voters, ne_Proposer__proposals_ballot, ne_Proposer__proposals_state, ne_Proposer__proposals__index, ne_Proposer__proposals__count, ne_Proposer__proposals__seen, ne_Proposer__proposals__next_slot, ne_Proposer__proposals__promises, ne_Proposer__proposals__voters, ne_Proposer__voters_ballot, ne_Proposer__voters_state, ne_Proposer__voters__index, ne_Proposer__voters__count, ne_Proposer__voters__seen, ne_Proposer__voters__next_slot, ne_Proposer__voters__promises, ne_Proposer__voters__proposals, ne_Proposer_saw_ballot, ne_Proposer_saw_state, ne_Proposer_saw__index, ne_Proposer_saw__count, ne_Proposer_saw__seen, ne_Proposer_saw__next_slot, ne_Proposer_saw__promises, ne_Proposer_saw__proposals, ne_Proposer_saw__voters, ne_Proposer_begin_ballot, ne_Proposer_begin_state, ne_Proposer_begin__index, ne_Proposer_begin__count, ne_Proposer_begin__seen, ne_Proposer_begin__next_slot, ne_Proposer_begin__promises, ne_Proposer_begin__proposals, ne_Proposer_begin__voters, ne_Proposer_hear_promise_ballot, ne_Proposer_hear_promise_state, ne_Proposer_hear_promise__index, ne_Proposer_hear_promise__count, ne_Proposer_hear_promise__seen, ne_Proposer_hear_promise__next_slot, ne_Proposer_hear_promise__promises, ne_Proposer_hear_promise__proposals, ne_Proposer_hear_promise__voters, ne_Proposer__open_accepted_ballot, ne_Proposer__open_accepted_state, ne_Proposer__open_accepted__index, ne_Proposer__open_accepted__count, ne_Proposer__open_accepted__seen, ne_Proposer__open_accepted__next_slot, ne_Proposer__open_accepted__promises, ne_Proposer__open_accepted__proposals, ne_Proposer__open_accepted__voters, ne_Proposer__promised_pairs_ballot, ne_Proposer__promised_pairs_state, ne_Proposer__promised_pairs__index, ne_Proposer__promised_pairs__count, ne_Proposer__promised_pairs__seen, ne_Proposer__promised_pairs__next_slot, ne_Proposer__promised_pairs__promises, ne_Proposer__promised_pairs__proposals, ne_Proposer__promised_pairs__voters, ne_Proposer_propose_ballot, ne_Proposer_propose_state, ne_Proposer_propose__index, ne_Proposer_propose__count, ne_Proposer_propose__seen, ne_Proposer_propose__next_slot, ne_Proposer_propose__promises, ne_Proposer_propose__proposals, ne_Proposer_propose__voters, ne_Proposer_hear_accepted_ballot, ne_Proposer_hear_accepted_state, ne_Proposer_hear_accepted__index, ne_Proposer_hear_accepted__count, ne_Proposer_hear_accepted__seen, ne_Proposer_hear_accepted__next_slot, ne_Proposer_hear_accepted__promises, ne_Proposer_hear_accepted__proposals, ne_Proposer_hear_accepted__voters, ne_Proposer_open_proposals_ballot, ne_Proposer_open_proposals_state, ne_Proposer_open_proposals__index, ne_Proposer_open_proposals__count, ne_Proposer_open_proposals__seen, ne_Proposer_open_proposals__next_slot, ne_Proposer_open_proposals__promises, ne_Proposer_open_proposals__proposals, ne_Proposer_open_proposals__voters, ne_Proposer_stop_ballot, ne_Proposer_stop_state, ne_Proposer_stop__index, ne_Proposer_stop__count, ne_Proposer_stop__seen, ne_Proposer_stop__next_slot, ne_Proposer_stop__promises, ne_Proposer_stop__proposals, ne_Proposer_stop__voters, ne_Proposer__forget_proposals_ballot, ne_Proposer__forget_proposals_state, ne_Proposer__forget_proposals__index, ne_Proposer__forget_proposals__count, ne_Proposer__forget_proposals__seen, ne_Proposer__forget_proposals__next_slot, ne_Proposer__forget_proposals__promises, ne_Proposer__forget_proposals__proposals, ne_Proposer__forget_proposals__voters, ne_Proposer_ballot_state_p, ne_Proposer_ballot__index_p, ne_Proposer_ballot__count_p, ne_Proposer_ballot__seen_p, ne_Proposer_ballot__next_slot_p, ne_Proposer_ballot__promises_p, ne_Proposer_ballot__proposals_p, ne_Proposer_ballot__voters_p, ne_Proposer_state_ballot_p, ne_Proposer_state__index_p, ne_Proposer_state__count_p, ne_Proposer_state__seen_p, ne_Proposer_state__next_slot_p, ne_Proposer_state__promises_p, ne_Proposer_state__proposals_p, ne_Proposer_state__voters_p, ne_Proposer__index_ballot_p, ne_Proposer__index_state_p, ne_Proposer__index__count_p, ne_Proposer__index__seen_p, ne_Proposer__index__next_slot_p, ne_Proposer__index__promises_p, ne_Proposer__index__proposals_p, ne_Proposer__index__voters_p, ne_Proposer__count_ballot_p, ne_Proposer__count_state_p, ne_Proposer__count__index_p, ne_Proposer__count__seen_p, ne_Proposer__count__next_slot_p, ne_Proposer__count__promises_p, ne_Proposer__count__proposals_p, ne_Proposer__count__voters_p, ne_Proposer__seen_ballot_p, ne_Proposer__seen_state_p, ne_Proposer__seen__index_p, ne_Proposer__seen__count_p, ne_Proposer__seen__next_slot_p, ne_Proposer__seen__promises_p, ne_Proposer__seen__proposals_p, ne_Proposer__seen__voters_p, ne_Proposer__next_slot_ballot_p, ne_Proposer__next_slot_state_p, ne_Proposer__next_slot__index_p, ne_Proposer__next_slot__count_p, ne_Proposer__next_slot__seen_p, ne_Proposer__next_slot__promises_p, ne_Proposer__next_slot__proposals_p, ne_Proposer__next_slot__voters_p, ne_Proposer__promises_ballot_p, ne_Proposer__promises_state_p, ne_Proposer__promises__index_p, ne_Proposer__promises__count_p, ne_Proposer__promises__seen_p, ne_Proposer__promises__next_slot_p, ne_Proposer__promises__proposals_p, ne_Proposer__promises__voters_p, ne_Proposer__proposals_ballot_p, ne_Proposer__proposals_state_p, ne_Proposer__proposals__index_p, ne_Proposer__proposals__count_p, ne_Proposer__proposals__seen_p, ne_Proposer__proposals__next_slot_p, ne_Proposer__proposals__promises_p, ne_Proposer__proposals__voters_p, ne_Proposer__voters_ballot_p, ne_Proposer__voters_state_p, ne_Proposer__voters__index_p, ne_Proposer__voters__count_p, ne_Proposer__voters__seen_p, ne_Proposer__voters__next_slot_p, ne_Proposer__voters__promises_p, ne_Proposer__voters__proposals_p, ne_Proposer_saw_ballot_p, ne_Proposer_saw_state_p, ne_Proposer_saw__index_p, ne_Proposer_saw__count_p, ne_Proposer_saw__seen_p, ne_Proposer_saw__next_slot_p, ne_Proposer_saw__promises_p, ne_Proposer_saw__proposals_p, ne_Proposer_saw__voters_p, ne_Proposer_begin_ballot_p, ne_Proposer_begin_state_p, ne_Proposer_begin__index_p, ne_Proposer_begin__count_p, ne_Proposer_begin__seen_p, ne_Proposer_begin__next_slot_p, ne_Proposer_begin__promises_p, ne_Proposer_begin__proposals_p, ne_Proposer_begin__voters_p, ne_Proposer_hear_promise_ballot_p, ne_Proposer_hear_promise_state_p, ne_Proposer_hear_promise__index_p, ne_Proposer_hear_promise__count_p, ne_Proposer_hear_promise__seen_p, ne_Proposer_hear_promise__next_slot_p, ne_Proposer_hear_promise__promises_p, ne_Proposer_hear_promise__proposals_p, ne_Proposer_hear_promise__voters_p, ne_Proposer__open_accepted_ballot_p, ne_Proposer__open_accepted_state_p, ne_Proposer__open_accepted__index_p, ne_Proposer__open_accepted__count_p, ne_Proposer__open_accepted__seen_p, ne_Proposer__open_accepted__next_slot_p, ne_Proposer__open_accepted__promises_p, ne_Proposer__open_accepted__proposals_p, ne_Proposer__open_accepted__voters_p, ne_Proposer__promised_pairs_ballot_p, ne_Proposer__promised_pairs_state_p, ne_Proposer__promised_pairs__index_p, ne_Proposer__promised_pairs__count_p, ne_Proposer__promised_pairs__seen_p, ne_Proposer__promised_pairs__next_slot_p, ne_Proposer__promised_pairs__promises_p, ne_Proposer__promised_pairs__proposals_p, ne_Proposer__promised_pairs__voters_p, ne_Proposer_propose_ballot_p, ne_Proposer_propose_state_p, ne_Proposer_propose__index_p, ne_Proposer_propose__count_p, ne_Proposer_propose__seen_p, ne_Proposer_propose__next_slot_p, ne_Proposer_propose__promises_p, ne_Proposer_propose__proposals_p, ne_Proposer_propose__voters_p, ne_Proposer_hear_accepted_ballot_p, ne_Proposer_hear_accepted_state_p, ne_Proposer_hear_accepted__index_p, ne_Proposer_hear_accepted__count_p, ne_Proposer_hear_accepted__seen_p, ne_Proposer_hear_accepted__next_slot_p, ne_Proposer_hear_accepted__promises_p, ne_Proposer_hear_accepted__proposals_p, ne_Proposer_hear_accepted__voters_p, ne_Proposer_open_proposals_ballot_p, ne_Proposer_open_proposals_state_p, ne_Proposer_open_proposals__index_p, ne_Proposer_open_proposals__count_p, ne_Proposer_open_proposals__seen_p, ne_Proposer_open_proposals__next_slot_p, ne_Proposer_open_proposals__promises_p, ne_Proposer_open_proposals__proposals_p, ne_Proposer_open_proposals__voters_p, ne_Proposer_stop_ballot_p, ne_Proposer_stop_state_p, ne_Proposer_stop__index_p, ne_Proposer_stop__count_p, ne_Proposer_stop__seen_p, ne_Proposer_stop__next_slot_p, ne_Proposer_stop__promises_p, ne_Proposer_stop__proposals_p, ne_Proposer_stop__voters_p, ne_Proposer__forget_proposals_ballot_p, ne_Proposer__forget_proposals_state_p, ne_Proposer__forget_proposals__index_p, ne_Proposer__forget_proposals__count_p, ne_Proposer__forget_proposals__seen_p, ne_Proposer__forget_proposals__next_slot_p, ne_Proposer__forget_proposals__promises_p, ne_Proposer__forget_proposals__proposals_p, ne_Proposer__forget_proposals__voters_p]
theorem fl_Proposer_no_saw {v0 v1 v2 v3 v4 v5 v6 v7 v8 : V} : (fl_Proposer v0 v1 v2 v3 v4 v5 v6 v7 v8).lookup ("saw" : Str) = none := by unfold fl_Proposer; simp [List.lookup, ne_Proposer_ballot_state, ne_Proposer_ballot__index, ne_Proposer_ballot__count, ne_Proposer_ballot__seen, ne_Proposer_ballot__next_slot, ne_Proposer_ballot__promises, ne_Proposer_ballot__proposals, ne_Proposer_ballot__voters, ne_Proposer_state_ballot, ne_Proposer_state__index, ne_Proposer_state__count, ne_Proposer_state__seen, ne_Proposer_state__next_slot, ne_Proposer_state__promises, ne_Proposer_state__proposals, ne_Proposer_state__voters, ne_Proposer__index_ballot, ne_Proposer__index_state, ne_Proposer__index__count, ne_Proposer__index__seen, ne_Proposer__index__next_slot, ne_Proposer__index__promises, ne_Proposer__index__proposals, ne_Proposer__index__voters, ne_Proposer__count_ballot, ne_Proposer__count_state, ne_Proposer__count__index, ne_Proposer__count__seen, ne_Proposer__count__next_slot, ne_Proposer__count__promises, ne_Proposer__count__proposals, ne_Proposer__count__voters, ne_Proposer__seen_ballot, ne_Proposer__seen_state, ne_Proposer__seen__index, ne_Proposer__seen__count, ne_Proposer__seen__next_slot, ne_Proposer__seen__promises, ne_Proposer__seen__proposals, ne_Proposer__seen__voters, ne_Proposer__next_slot_ballot, ne_Proposer__next_slot_state, ne_Proposer__next_slot__index, ne_Proposer__next_slot__count, ne_Proposer__next_slot__seen, ne_Proposer__next_slot__promises, ne_Proposer__next_slot__proposals, ne_Proposer__next_slot__voters, ne_Proposer__promises_ballot, ne_Proposer__promises_state, ne_Proposer__promises__index, ne_Proposer__promises__count, ne_Proposer__promises__seen, ne_Proposer__promises__next_slot, ne_Proposer__promises__proposals, ne_Proposer__promises__voters, ne_Proposer__proposals_ballot, ne_Proposer__proposals_state, ne_Proposer__proposals__index, ne_Proposer__proposals__count, ne_Proposer__proposals__seen, ne_Proposer__proposals__next_slot, ne_Proposer__proposals__promises, ne_Proposer__proposals__voters, ne_Proposer__voters_ballot, ne_Proposer__voters_state, ne_Proposer__voters__index, ne_Proposer__voters__count, ne_Proposer__voters__seen, ne_Proposer__voters__next_slot, ne_Proposer__voters__promises, ne_Proposer__voters__proposals, ne_Proposer_saw_ballot, ne_Proposer_saw_state, ne_Proposer_saw__index, ne_Proposer_saw__count, ne_Proposer_saw__seen, ne_Proposer_saw__next_slot, ne_Proposer_saw__promises, ne_Proposer_saw__proposals, ne_Proposer_saw__voters, ne_Proposer_begin_ballot, ne_Proposer_begin_state, ne_Proposer_begin__index, ne_Proposer_begin__count, ne_Proposer_begin__seen, ne_Proposer_begin__next_slot, ne_Proposer_begin__promises, ne_Proposer_begin__proposals, ne_Proposer_begin__voters, ne_Proposer_hear_promise_ballot, ne_Proposer_hear_promise_state, ne_Proposer_hear_promise__index, ne_Proposer_hear_promise__count, ne_Proposer_hear_promise__seen, ne_Proposer_hear_promise__next_slot, ne_Proposer_hear_promise__promises, ne_Proposer_hear_promise__proposals, ne_Proposer_hear_promise__voters, ne_Proposer__open_accepted_ballot, ne_Proposer__open_accepted_state, ne_Proposer__open_accepted__index, ne_Proposer__open_accepted__count, ne_Proposer__open_accepted__seen, ne_Proposer__open_accepted__next_slot, ne_Proposer__open_accepted__promises, ne_Proposer__open_accepted__proposals, ne_Proposer__open_accepted__voters, ne_Proposer__promised_pairs_ballot, ne_Proposer__promised_pairs_state, ne_Proposer__promised_pairs__index, ne_Proposer__promised_pairs__count, ne_Proposer__promised_pairs__seen, ne_Proposer__promised_pairs__next_slot, ne_Proposer__promised_pairs__promises, ne_Proposer__promised_pairs__proposals, ne_Proposer__promised_pairs__voters, ne_Proposer_propose_ballot, ne_Proposer_propose_state, ne_Proposer_propose__index, ne_Proposer_propose__count, ne_Proposer_propose__seen, ne_Proposer_propose__next_slot, ne_Proposer_propose__promises, ne_Proposer_propose__proposals, ne_Proposer_propose__voters, ne_Proposer_hear_accepted_ballot, ne_Proposer_hear_accepted_state, ne_Proposer_hear_accepted__index, ne_Proposer_hear_accepted__count, ne_Proposer_hear_accepted__seen, ne_Proposer_hear_accepted__next_slot, ne_Proposer_hear_accepted__promises, ne_Proposer_hear_accepted__proposals, ne_Proposer_hear_accepted__voters, ne_Proposer_open_proposals_ballot, ne_Proposer_open_proposals_state, ne_Proposer_open_proposals__index, ne_Proposer_open_proposals__count, ne_Proposer_open_proposals__seen, ne_Proposer_open_proposals__next_slot, ne_Proposer_open_proposals__promises, ne_Proposer_open_proposals__proposals, ne_Proposer_open_proposals__voters, ne_Proposer_stop_ballot, ne_Proposer_stop_state, ne_Proposer_stop__index, ne_Proposer_stop__count, ne_Proposer_stop__seen, ne_Proposer_stop__next_slot, ne_Proposer_stop__promises, ne_Proposer_stop__proposals, ne_Proposer_stop__voters, ne_Proposer__forget_proposals_ballot, ne_Proposer__forget_proposals_state, ne_Proposer__forget_proposals__index, ne_Proposer__forget_proposals__count, ne_Proposer__forget_proposals__seen, ne_Proposer__forget_proposals__next_slot, ne_Proposer__forget_proposals__promises, ne_Proposer__forget_proposals__proposals, ne_Proposer__forget_proposals__voters, ne_Proposer_ballot_state_p, ne_Proposer_ballot__index_p, ne_Proposer_ballot__count_p, ne_Proposer_ballot__seen_p, ne_Proposer_ballot__next_slot_p, ne_Proposer_ballot__promises_p, ne_Proposer_ballot__proposals_p, ne_Proposer_ballot__voters_p, ne_Proposer_state_ballot_p, ne_Proposer_state__index_p, ne_Proposer_state__count_p, ne_Proposer_state__seen_p, ne_Proposer_state__next_slot_p, ne_Proposer_state__promises_p, ne_Proposer_state__proposals_p, ne_Proposer_state__voters_p, ne_Proposer__index_ballot_p, ne_Proposer__index_state_p, ne_Proposer__index__count_p, ne_Proposer__index__seen_p, ne_Proposer__index__next_slot_p, ne_Proposer__index__promises_p, ne_Proposer__index__proposals_p, ne_Proposer__index__voters_p, ne_Proposer__count_ballot_p, ne_Proposer__count_state_p, ne_Proposer__count__index_p, ne_Proposer__count__seen_p, ne_Proposer__count__next_slot_p, ne_Proposer__count__promises_p, ne_Proposer__count__proposals_p, ne_Proposer__count__voters_p, ne_Proposer__seen_ballot_p, ne_Proposer__seen_state_p, ne_Proposer__seen__index_p, ne_Proposer__seen__count_p, ne_Proposer__seen__next_slot_p, ne_Proposer__seen__promises_p, ne_Proposer__seen__proposals_p, ne_Proposer__seen__voters_p, ne_Proposer__next_slot_ballot_p, ne_Proposer__next_slot_state_p, ne_Proposer__next_slot__index_p, ne_Proposer__next_slot__count_p, ne_Proposer__next_slot__seen_p, ne_Proposer__next_slot__promises_p, ne_Proposer__next_slot__proposals_p, ne_Proposer__next_slot__voters_p, ne_Proposer__promises_ballot_p, ne_Proposer__promises_state_p, ne_Proposer__promises__index_p, ne_Proposer__promises__count_p, ne_Proposer__promises__seen_p, ne_Proposer__promises__next_slot_p, ne_Proposer__promises__proposals_p, ne_Proposer__promises__voters_p, ne_Proposer__proposals_ballot_p, ne_Proposer__proposals_state_p, ne_Proposer__proposals__index_p, ne_Proposer__proposals__count_p, ne_Proposer__proposals__seen_p, ne_Proposer__proposals__next_slot_p, ne_Proposer__proposals__promises_p, ne_Proposer__proposals__voters_p, ne_Proposer__voters_ballot_p, ne_Proposer__voters_state_p, ne_Proposer__voters__index_p, ne_Proposer__voters__count_p, ne_Proposer__voters__seen_p, ne_Proposer__voters__next_slot_p, ne_Proposer__voters__promises_p, ne_Proposer__voters__proposals_p, ne_Proposer_saw_ballot_p, ne_Proposer_saw_state_p, ne_Proposer_saw__index_p, ne_Proposer_saw__count_p, ne_Proposer_saw__seen_p, ne_Proposer_saw__next_slot_p, ne_Proposer_saw__promises_p, ne_Proposer_saw__proposals_p, ne_Proposer_saw__voters_p, ne_Proposer_begin_ballot_p, ne_Proposer_begin_state_p, ne_Proposer_begin__index_p, ne_Proposer_begin__count_p, ne_Proposer_begin__seen_p, ne_Proposer_begin__next_slot_p, ne_Proposer_begin__promises_p, ne_Proposer_begin__proposals_p, ne_Proposer_begin__voters_p, ne_Proposer_hear_promise_ballot_p, ne_Proposer_hear_promise_state_p, ne_Proposer_hear_promise__index_p, ne_Proposer_hear_promise__count_p, ne_Proposer_hear_promise__seen_p, ne_Proposer_hear_promise__next_slot_p, ne_Proposer_hear_promise__promises_p, ne_Proposer_hear_promise__proposals_p, ne_Proposer_hear_promise__voters_p, ne_Proposer__open_accepted_ballot_p, ne_Proposer__open_accepted_state_p, ne_Proposer__open_accepted__index_p, ne_Proposer__open_accepted__count_p, ne_Proposer__open_accepted__seen_p, ne_Proposer__open_accepted__next_slot_p, ne_Proposer__open_accepted__promises_p, ne_Proposer__open_accepted__proposals_p, ne_Proposer__open_accepted__voters_p, ne_Proposer__promised_pairs_ballot_p, ne_Proposer__promised_pairs_state_p, ne_Proposer__promised_pairs__index_p, ne_Proposer__promised_pairs__count_p, ne_Proposer__promised_pairs__seen_p, ne_Proposer__promised_pairs__next_slot_p, ne_Proposer__promised_pairs__promises_p, ne_Proposer__promised_pairs__proposals_p, ne_Proposer__promised_pairs__voters_p, ne_Proposer_propose_ballot_p, ne_Proposer_propose_state_p, ne_Proposer_propose__index_p, ne_Proposer_propose__count_p, ne_Proposer_propose__seen_p, ne_Proposer_propose__next_slot_p, ne_Proposer_propose__promises_p, ne_Proposer_propose__proposals_p, ne_Proposer_propose__voters_p, ne_Proposer_hear_accepted_ballot_p, ne_Proposer_hear_accepted_state_p, ne_Proposer_hear_accepted__index_p, ne_Proposer_hear_accepted__count_p, ne_Proposer_hear_accepted__seen_p, ne_Proposer_hear_accepted__next_slot_p, ne_Proposer_hear_accepted__promises_p, ne_Proposer_hear_accepted__proposals_p, ne_Proposer_hear_accepted__voters_p, ne_Proposer_open_proposals_ballot_p, ne_Proposer_open_proposals_state_p, ne_Proposer_open_proposals__index_p, ne_Proposer_open_proposals__count_p, ne_Proposer_open_proposals__seen_p, ne_Proposer_open_proposals__next_slot_p, ne_Proposer_open_proposals__promises_p, ne_Proposer_open_proposals__proposals_p, ne_Proposer_open_proposals__voters_p, ne_Proposer_stop_ballot_p, ne_Proposer_stop_state_p, ne_Proposer_stop__index_p, ne_Proposer_stop__count_p, ne_Proposer_stop__seen_p, ne_Proposer_stop__next_slot_p, ne_Proposer_stop__promises_p, ne_Proposer_stop__proposals_p, ne_Proposer_stop__voters_p, ne_Proposer__forget_proposals_ballot_p, ne_Proposer__forget_proposals_state_p, ne_Proposer__forget_proposals__index_p, ne_Proposer__forget_proposals__count_p, ne_Proposer__forget_proposals__seen_p, ne_Proposer__forget_proposals__next_slot_p, ne_Proposer__forget_proposals__promises_p, ne_Proposer__forget_proposals__proposals_p, ne_Proposer__forget_proposals__voters_p]
theorem fl_Proposer_no_begin {v0 v1 v2 v3 v4 v5 v6 v7 v8 : V} : (fl_Proposer v0 v1 v2 v3 v4 v5 v6 v7 v8).lookup ("begin" : Str) = none := by unfold fl_Proposer; simp [List.lookup, ne_Proposer_ballot_state, ne_Proposer_ballot__index, ne_Proposer_ballot__count, ne_Proposer_ballot__seen, ne_Proposer_ballot__next_slot, ne_Proposer_ballot__promises, ne_Proposer_ballot__proposals, ne_Proposer_ballot__voters, ne_Proposer_state_ballot, ne_Proposer_state__index, ne_Proposer_state__count, ne_Proposer_state__seen, ne_Proposer_state__next_slot, ne_Proposer_state__promises, ne_Proposer_state__proposals, ne_Proposer_state__voters, ne_Proposer__index_ballot, ne_Proposer__index_state, ne_Proposer__index__count, ne_Proposer__index__seen, ne_Proposer__index__next_slot, ne_Proposer__index__promises, ne_Proposer__index__proposals, ne_Proposer__index__voters, ne_Proposer__count_ballot, ne_Proposer__count_state, ne_Proposer__count__index, ne_Proposer__count__seen, ne_Proposer__count__next_slot, ne_Proposer__count__promises, ne_Proposer__count__proposals, ne_Proposer__count__voters, ne_Proposer__seen_ballot, ne_Proposer__seen_state, ne_Proposer__seen__index, ne_Proposer__seen__count, ne_Proposer__seen__next_slot, ne_Proposer__seen__promises, ne_Proposer__seen__proposals, ne_Proposer__seen__voters, ne_Proposer__next_slot_ballot, ne_Proposer__next_slot_state, ne_Proposer__next_slot__index, ne_Proposer__next_slot__count, ne_Proposer__next_slot__seen, ne_Proposer__next_slot__promises, ne_Proposer__next_slot__proposals, ne_Proposer__next_slot__voters, ne_Proposer__promises_ballot, ne_Proposer__promises_state, ne_Proposer__promises__index, ne_Proposer__promises__count, ne_Proposer__promises__seen, ne_Proposer__promises__next_slot, ne_Proposer__promises__proposals, ne_Proposer__promises__voters, ne_Proposer__proposals_ballot, ne_Proposer__proposals_state, ne_Proposer__proposals__index, ne_Proposer__proposals__count, ne_Proposer__proposals__seen, ne_Proposer__proposals__next_slot, ne_Proposer__proposals__promises, ne_Proposer__proposals__voters, ne_Proposer__voters_ballot, ne_Proposer__voters_state, ne_Proposer__voters__index, ne_Proposer__voters__count, ne_Proposer__voters__seen, ne_Proposer__voters__next_slot, ne_Proposer__voters__promises, ne_Proposer__voters__proposals, ne_Proposer_saw_ballot, ne_Proposer_saw_state, ne_Proposer_saw__index, ne_Proposer_saw__count, ne_Proposer_saw__seen, ne_Proposer_saw__next_slot, ne_Proposer_saw__promises, ne_Proposer_saw__proposals, ne_Proposer_saw__voters, ne_Proposer_begin_ballot, ne_Proposer_begin_state, ne_Proposer_begin__index, ne_Proposer_begin__count, ne_Proposer_begin__seen, ne_Proposer_begin__next_slot, ne_Proposer_begin__promises, ne_Proposer_begin__proposals, ne_Proposer_begin__voters, ne_Proposer_hear_promise_ballot, ne_Proposer_hear_promise_state, ne_Proposer_hear_promise__index, ne_Proposer_hear_promise__count, ne_Proposer_hear_promise__seen, ne_Proposer_hear_promise__next_slot, ne_Proposer_hear_promise__promises, ne_Proposer_hear_promise__proposals, ne_Proposer_hear_promise__voters, ne_Proposer__open_accepted_ballot, ne_Proposer__open_accepted_state, ne_Proposer__open_accepted__index, ne_Proposer__open_accepted__count, ne_Proposer__open_accepted__seen, ne_Proposer__open_accepted__next_slot, ne_Proposer__open_accepted__promises, ne_Proposer__open_accepted__proposals, ne_Proposer__open_accepted__voters, ne_Proposer__promised_pairs_ballot, ne_Proposer__promised_pairs_state, ne_Proposer__promised_pairs__index, ne_Proposer__promised_pairs__count, ne_Proposer__promised_pairs__seen, ne_Proposer__promised_pairs__next_slot, ne_Proposer__promised_pairs__promises, ne_Proposer__promised_pairs__proposals, ne_Proposer__promised_pairs__voters, ne_Proposer_propose_ballot, ne_Proposer_propose_state, ne_Proposer_propose__index, ne_Proposer_propose__count, ne_Proposer_propose__seen, ne_Proposer_propose__next_slot, ne_Proposer_propose__promises, ne_Proposer_propose__proposals, ne_Proposer_propose__voters, ne_Proposer_hear_accepted_ballot, ne_Proposer_hear_accepted_state, ne_Proposer_hear_accepted__index, ne_Proposer_hear_accepted__count, ne_Proposer_hear_accepted__seen, ne_Proposer_hear_accepted__next_slot, ne_Proposer_hear_accepted__promises, ne_Proposer_hear_accepted__proposals, ne_Proposer_hear_accepted__voters, ne_Proposer_open_proposals_ballot, ne_Proposer_open_proposals_state, ne_Proposer_open_proposals__index, ne_Proposer_open_proposals__count, ne_Proposer_open_proposals__seen, ne_Proposer_open_proposals__next_slot, ne_Proposer_open_proposals__promises, ne_Proposer_open_proposals__proposals, ne_Proposer_open_proposals__voters, ne_Proposer_stop_ballot, ne_Proposer_stop_state, ne_Proposer_stop__index, ne_Proposer_stop__count, ne_Proposer_stop__seen, ne_Proposer_stop__next_slot, ne_Proposer_stop__promises, ne_Proposer_stop__proposals, ne_Proposer_stop__voters, ne_Proposer__forget_proposals_ballot, ne_Proposer__forget_proposals_state, ne_Proposer__forget_proposals__index, ne_Proposer__forget_proposals__count, ne_Proposer__forget_proposals__seen, ne_Proposer__forget_proposals__next_slot, ne_Proposer__forget_proposals__promises, ne_Proposer__forget_proposals__proposals, ne_Proposer__forget_proposals__voters, ne_Proposer_ballot_state_p, ne_Proposer_ballot__index_p, ne_Proposer_ballot__count_p, ne_Proposer_ballot__seen_p, ne_Proposer_ballot__next_slot_p, ne_Proposer_ballot__promises_p, ne_Proposer_ballot__proposals_p, ne_Proposer_ballot__voters_p, ne_Proposer_state_ballot_p, ne_Proposer_state__index_p, ne_Proposer_state__count_p, ne_Proposer_state__seen_p, ne_Proposer_state__next_slot_p, ne_Proposer_state__promises_p, ne_Proposer_state__proposals_p, ne_Proposer_state__voters_p, ne_Proposer__index_ballot_p, ne_Proposer__index_state_p, ne_Proposer__index__count_p, ne_Proposer__index__seen_p, ne_Proposer__index__next_slot_p, ne_Proposer__index__promises_p, ne_Proposer__index__proposals_p, ne_Proposer__index__voters_p, ne_Proposer__count_ballot_p, ne_Proposer__count_state_p, ne_Proposer__count__index_p, ne_Proposer__count__seen_p, ne_Proposer__count__next_slot_p, ne_Proposer__count__promises_p, ne_Proposer__count__proposals_p, ne_Proposer__count__voters_p, ne_Proposer__seen_ballot_p, ne_Proposer__seen_state_p, ne_Proposer__seen__index_p, ne_Proposer__seen__count_p, ne_Proposer__seen__next_slot_p, ne_Proposer__seen__promises_p, ne_Proposer__seen__proposals_p, ne_Proposer__seen__voters_p, ne_Proposer__next_slot_ballot_p, ne_Proposer__next_slot_state_p, ne_Proposer__next_slot__index_p, ne_Proposer__next_slot__count_p, ne_Proposer__next_slot__seen_p, ne_Proposer__next_slot__promises_p, ne_Proposer__next_slot__proposals_p, ne_Proposer__next_slot__voters_p, ne_Proposer__promises_ballot_p, ne_Proposer__promises_state_p, ne_Proposer__promises__index_p, ne_Proposer__promises__count_p, ne_Proposer__promises__seen_p, ne_Proposer__promises__next_slot_p, ne_Proposer__promises__proposals_p, ne_Proposer__promises__voters_p, ne_Proposer__proposals_ballot_p, ne_Proposer__proposals_state_p, ne_Proposer__proposals__index_p, ne_Proposer__proposals__count_p, ne_Proposer__proposals__seen_p, ne_Proposer__proposals__next_slot_p, ne_Proposer__proposals__promises_p, ne_Proposer__proposals__voters_p, ne_Proposer__voters_ballot_p, ne_Proposer__voters_state_p, ne_Proposer__voters__index_p, ne_Proposer__voters__count_p, ne_Proposer__voters__seen_p, ne_Proposer__voters__next_slot_p, ne_Proposer__voters__promises_p, ne_Proposer__voters__proposals_p, ne_Proposer_saw_ballot_p, ne_Proposer_saw_state_p, ne_Proposer_saw__index_p, ne_Proposer_saw__count_p, ne_Proposer_saw__seen_p, ne_Proposer_saw__next_slot_p, ne_Proposer_saw__promises_p, ne_Proposer_saw__proposals_p, ne_Proposer_saw__voters_p, ne_Proposer_begin_ballot_p, ne_Proposer_begin_state_p, ne_Proposer_begin__index_p, ne_Proposer_begin__count_p, ne_Proposer_begin__seen_p, ne_Proposer_begin__next_slot_p, ne_Proposer_begin__promises_p, ne_Proposer_begin__proposals_p, ne_Proposer_begin__voters_p, ne_Proposer_hear_promise_ballot_p, ne_Proposer_hear_promise_state_p, ne_Proposer_hear_promise__index_p, ne_Proposer_hear_promise__count_p, ne_Proposer_hear_promise__seen_p, ne_Proposer_hear_promise__next_slot_p, ne_Proposer_hear_promise__promises_p, ne_Proposer_hear_promise__proposals_p, ne_Proposer_hear_promise__voters_p, ne_Proposer__open_accepted_ballot_p, ne_Proposer__open_accepted_state_p, ne_Proposer__open_accepted__index_p, ne_Proposer__open_accepted__count_p, ne_Proposer__open_accepted__seen_p, ne_Proposer__open_accepted__next_slot_p, ne_Proposer__open_accepted__promises_p, ne_Proposer__open_accepted__proposals_p, ne_Proposer__open_accepted__voters_p, ne_Proposer__promised_pairs_ballot_p, ne_Proposer__promised_pairs_state_p, ne_Proposer__promised_pairs__index_p, ne_Proposer__promised_pairs__count_p, ne_Proposer__promised_pairs__seen_p, ne_Proposer__promised_pairs__next_slot_p, ne_Proposer__promised_pairs__promises_p, ne_Proposer__promised_pairs__proposals_p, ne_Proposer__promised_pairs__voters_p, ne_Proposer_propose_ballot_p, ne_Proposer_propose_state_p, ne_Proposer_propose__index_p, ne_Proposer_propose__count_p, ne_Proposer_propose__seen_p, ne_Proposer_propose__next_slot_p, ne_Proposer_propose__promises_p, ne_Proposer_propose__proposals_p, ne_Proposer_propose__voters_p, ne_Proposer_hear_accepted_ballot_p, ne_Proposer_hear_accepted_state_p, ne_Proposer_hear_accepted__index_p, ne_Proposer_hear_accepted__count_p, ne_Proposer_hear_accepted__seen_p, ne_Proposer_hear_accepted__next_slot_p, ne_Proposer_hear_accepted__promises_p, ne_Proposer_hear_accepted__proposals_p, ne_Proposer_hear_accepted__voters_p, ne_Proposer_open_proposals_ballot_p, ne_Proposer_open_proposals_state_p, ne_Proposer_open_proposals__index_p, ne_Proposer_open_proposals__count_p, ne_Proposer_open_proposals__seen_p, ne_Proposer_open_proposals__next_slot_p, ne_Proposer_open_proposals__promises_p, ne_Proposer_open_proposals__proposals_p, ne_Proposer_open_proposals__voters_p, ne_Proposer_stop_ballot_p, ne_Proposer_stop_state_p, ne_Proposer_stop__index_p, ne_Proposer_stop__count_p, ne_Proposer_stop__seen_p, ne_Proposer_stop__next_slot_p, ne_Proposer_stop__promises_p, ne_Proposer_stop__proposals_p, ne_Proposer_stop__voters_p, ne_Proposer__forget_proposals_ballot_p, ne_Proposer__forget_proposals_state_p, ne_Proposer__forget_proposals__index_p, ne_Proposer__forget_proposals__count_p, ne_Proposer__forget_proposals__seen_p, ne_Proposer__forget_proposals__next_slot_p, ne_Proposer__forget_proposals__promises_p, ne_Proposer__forget_proposals__proposals_p, ne_Proposer__forget_proposals__voters_p]
theorem fl_Proposer_no_hear_promise {v0 v1 v2 v3 v4 v5 v6 v7 v8 : V} : (fl_Proposer v0 v1 v2 v3 v4 v5 v6 v7 v8).lookup ("hear_promise" : Str) = none := by unfold fl_Proposer; simp [List.lookup, ne_Proposer_ballot_state, ne_Proposer_ballot__index, ne_Proposer_ballot__count, ne_Proposer_ballot__seen, ne_Proposer_ballot__next_slot, ne_Proposer_ballot__promises, ne_Proposer_ballot__proposals, ne_Proposer_ballot__voters, ne_Proposer_state_ballot, ne_Proposer_state__index, ne_Proposer_state__count, ne_Proposer_state__seen, ne_Proposer_state__next_slot, ne_Proposer_state__promises, ne_Proposer_state__proposals, ne_Proposer_state__voters, ne_Proposer__index_ballot, ne_Proposer__index_state, ne_Proposer__index__count, ne_Proposer__index__seen, ne_Proposer__index__next_slot, ne_Proposer__index__promises, ne_Proposer__index__proposals, ne_Proposer__index__voters, ne_Proposer__count_ballot, ne_Proposer__count_state, ne_Proposer__count__index, ne_Proposer__count__seen, ne_Proposer__count__next_slot, ne_Proposer__count__promises, ne_Proposer__count__proposals, ne_Proposer__count__voters, ne_Proposer__seen_ballot, ne_Proposer__seen_state, ne_Proposer__seen__index, ne_Proposer__seen__count, ne_Proposer__seen__next_slot, ne_Proposer__seen__promises, ne_Proposer__seen__proposals, ne_Proposer__seen__voters, ne_Proposer__next_slot_ballot, ne_Proposer__next_slot_state, ne_Proposer__next_slot__index, ne_Proposer__next_slot__count, ne_Proposer__next_slot__seen, ne_Proposer__next_slot__promises, ne_Proposer__next_slot__proposals, ne_Proposer__next_slot__voters, ne_Proposer__promises_ballot, ne_Proposer__promises_state, ne_Proposer__promises__index, ne_Proposer__promises__count, ne_Proposer__promises__seen, ne_Proposer__promises__next_slot, ne_Proposer__promises__proposals, ne_Proposer__promises__voters, ne_Proposer__proposals_ballot, ne_Proposer__proposals_state, ne_Proposer__proposals__index, ne_Proposer__proposals__count, ne_Proposer__proposals__seen, ne_Proposer__proposals__next_slot, ne_Proposer__proposals__promises, ne_Proposer__proposals__voters, ne_Proposer__voters_ballot, ne_Proposer__voters_state, ne_Proposer__voters__index, ne_Proposer__voters__count, ne_Proposer__voters__seen, ne_Proposer__voters__next_slot, ne_Proposer__voters__promises, ne_Proposer__voters__proposals, ne_Proposer_saw_ballot, ne_Proposer_saw_state, ne_Proposer_saw__index, ne_Proposer_saw__count, ne_Proposer_saw__seen, ne_Proposer_saw__next_slot, ne_Proposer_saw__promises, ne_Proposer_saw__proposals, ne_Proposer_saw__voters, ne_Proposer_begin_ballot, ne_Proposer_begin_state, ne_Proposer_begin__index, ne_Proposer_begin__count, ne_Proposer_begin__seen, ne_Proposer_begin__next_slot, ne_Proposer_begin__promises, ne_Proposer_begin__proposals, ne_Proposer_begin__voters, ne_Proposer_hear_promise_ballot, ne_Proposer_hear_promise_state, ne_Proposer_hear_promise__index, ne_Proposer_hear_promise__count, ne_Proposer_hear_promise__seen, ne_Proposer_hear_promise__next_slot, ne_Proposer_hear_promise__promises, ne_Proposer_hear_promise__proposals, ne_Proposer_hear_promise__voters, ne_Proposer__open_accepted_ballot, ne_Proposer__open_accepted_state, ne_Proposer__open_accepted__index, ne_Proposer__open_accepted__count, ne_Proposer__open_accepted__seen, ne_Proposer__open_accepted__next_slot, ne_Proposer__open_accepted__promises, ne_Proposer__open_accepted__proposals, ne_Proposer__open_accepted__voters, ne_Proposer__promised_pairs_ballot, ne_Proposer__promised_pairs_state, ne_Proposer__promised_pairs__index, ne_Proposer__promised_pairs__count, ne_Proposer__promised_pairs__seen, ne_Proposer__promised_pairs__next_slot, ne_Proposer__promised_pairs__promises, ne_Proposer__promised_pairs__proposals, ne_Proposer__promised_pairs__voters, ne_Proposer_propose_ballot, ne_Proposer_propose_state, ne_Proposer_propose__index, ne_Proposer_propose__count, ne_Proposer_propose__seen, ne_Proposer_propose__next_slot, ne_Proposer_propose__promises, ne_Proposer_propose__proposals, ne_Proposer_propose__voters, ne_Proposer_hear_accepted_ballot, ne_Proposer_hear_accepted_state, ne_Proposer_hear_accepted__index, ne_Proposer_hear_accepted__count, ne_Proposer_hear_accepted__seen, ne_Proposer_hear_accepted__next_slot, ne_Proposer_hear_accepted__promises, ne_Proposer_hear_accepted__proposals, ne_Proposer_hear_accepted__voters, ne_Proposer_open_proposals_ballot, ne_Proposer_open_proposals_state, ne_Proposer_open_proposals__index, ne_Proposer_open_proposals__count, ne_Proposer_open_proposals__seen, ne_Proposer_open_proposals__next_slot, ne_Proposer_open_proposals__promises, ne_Proposer_open_proposals__proposals, ne_Proposer_open_proposals__voters, ne_Proposer_stop_ballot, ne_Proposer_stop_state, ne_Proposer_stop__index, ne_Proposer_stop__count, ne_Proposer_stop__seen, ne_Proposer_stop__next_slot, ne_Proposer_stop__promises, ne_Proposer_stop__proposals, ne_Proposer_stop__voters, ne_Proposer__forget_proposals_ballot, ne_Proposer__forget_proposals_state, ne_Proposer__forget_proposals__index, ne_Proposer__forget_proposals__count, ne_Proposer__forget_proposals__seen, ne_Proposer__forget_proposals__next_slot, ne_Proposer__forget_proposals__promises, ne_Proposer__forget_proposals__proposals, ne_Proposer__forget_proposals__voters, ne_Proposer_ballot_state_p, ne_Proposer_ballot__index_p, ne_Proposer_ballot__count_p, ne_Proposer_ballot__seen_p, ne_Proposer_ballot__next_slot_p, ne_Proposer_ballot__promises_p, ne_Proposer_ballot__proposals_p, ne_Proposer_ballot__voters_p, ne_Proposer_state_ballot_p, ne_Proposer_state__index_p, ne_Proposer_state__count_p, ne_Proposer_state__seen_p, ne_Proposer_state__next_slot_p, ne_Proposer_state__promises_p, ne_Proposer_state__proposals_p, ne_Proposer_state__voters_p, ne_Proposer__index_ballot_p, ne_Proposer__index_state_p, ne_Proposer__index__count_p, ne_Proposer__index__seen_p, ne_Proposer__index__next_slot_p, ne_Proposer__index__promises_p, ne_Proposer__index__proposals_p, ne_Proposer__index__voters_p, ne_Proposer__count_ballot_p, ne_Proposer__count_state_p, ne_Proposer__count__index_p, ne_Proposer__count__seen_p, ne_Proposer__count__next_slot_p, ne_Proposer__count__promises_p, ne_Proposer__count__proposals_p, ne_Proposer__count__voters_p, ne_Proposer__seen_ballot_p, ne_Proposer__seen_state_p, ne_Proposer__seen__index_p, ne_Proposer__seen__count_p, ne_Proposer__seen__next_slot_p, ne_Proposer__seen__promises_p, ne_Proposer__seen__proposals_p, ne_Proposer__seen__voters_p, ne_Proposer__next_slot_ballot_p, ne_Proposer__next_slot_state_p, ne_Proposer__next_slot__index_p, ne_Proposer__next_slot__count_p, ne_Proposer__next_slot__seen_p, ne_Proposer__next_slot__promises_p, ne_Proposer__next_slot__proposals_p, ne_Proposer__next_slot__voters_p, ne_Proposer__promises_ballot_p, ne_Proposer__promises_state_p, ne_Proposer__promises__index_p, ne_Proposer__promises__count_p, ne_Proposer__promises__seen_p, ne_Proposer__promises__next_slot_p, ne_Proposer__promises__proposals_p, ne_Proposer__promises__voters_p, ne_Proposer__proposals_ballot_p, ne_Proposer__proposals_state_p, ne_Proposer__proposals__index_p, ne_Proposer__proposals__count_p, ne_Proposer__proposals__seen_p, ne_Proposer__proposals__next_slot_p, ne_Proposer__proposals__promises_p, ne_Proposer__proposals__voters_p, ne_Proposer__voters_ballot_p, ne_Proposer__voters_state_p, ne_Proposer__voters__index_p, ne_Proposer__voters__count_p, ne_Proposer__voters__seen_p, ne_Proposer__voters__next_slot_p, ne_Proposer__voters__promises_p, ne_Proposer__voters__proposals_p, ne_Proposer_saw_ballot_p, ne_Proposer_saw_state_p, ne_Proposer_saw__index_p, ne_Proposer_saw__count_p, ne_Proposer_saw__seen_p, ne_Proposer_saw__next_slot_p, ne_Proposer_saw__promises_p, ne_Proposer_saw__proposals_p, ne_Proposer_saw__voters_p, ne_Proposer_begin_ballot_p, ne_Proposer_begin_state_p, ne_Proposer_begin__index_p, ne_Proposer_begin__count_p, ne_Proposer_begin__seen_p, ne_Proposer_begin__next_slot_p, ne_Proposer_begin__promises_p, ne_Proposer_begin__proposals_p, ne_Proposer_begin__voters_p, ne_Proposer_hear_promise_ballot_p, ne_Proposer_hear_promise_state_p, ne_Proposer_hear_promise__index_p, ne_Proposer_hear_promise__count_p, ne_Proposer_hear_promise__seen_p, ne_Proposer_hear_promise__next_slot_p, ne_Proposer_hear_promise__promises_p, ne_Proposer_hear_promise__proposals_p, ne_Proposer_hear_promise__voters_p, ne_Proposer__open_accepted_ballot_p, ne_Proposer__open_accepted_state_p, ne_Proposer__open_accepted__index_p, ne_Proposer__open_accepted__count_p, ne_Proposer__open_accepted__seen_p, ne_Proposer__open_accepted__next_slot_p, ne_Proposer__open_accepted__promises_p, ne_Proposer__open_accepted__proposals_p, ne_Proposer__open_accepted__voters_p, ne_Proposer__promised_pairs_ballot_p, ne_Proposer__promised_pairs_state_p, ne_Proposer__promised_pairs__index_p, ne_Proposer__promised_pairs__count_p, ne_Proposer__promised_pairs__seen_p, ne_Proposer__promised_pairs__next_slot_p, ne_Proposer__promised_pairs__promises_p, ne_Proposer__promised_pairs__proposals_p, ne_Proposer__promised_pairs__voters_p, ne_Proposer_propose_ballot_p, ne_Proposer_propose_state_p, ne_Proposer_propose__index_p, ne_Proposer_propose__count_p, ne_Proposer_propose__seen_p, ne_Proposer_propose__next_slot_p, ne_Proposer_propose__promises_p, ne_Proposer_propose__proposals_p, ne_Proposer_propose__voters_p, ne_Proposer_hear_accepted_ballot_p, ne_Proposer_hear_accepted_state_p, ne_Proposer_hear_accepted__index_p, ne_Proposer_hear_accepted__count_p, ne_Proposer_hear_accepted__seen_p, ne_Proposer_hear_accepted__next_slot_p, ne_Proposer_hear_accepted__promises_p, ne_Proposer_hear_accepted__proposals_p, ne_Proposer_hear_accepted__voters_p, ne_Proposer_open_proposals_ballot_p, ne_Proposer_open_proposals_state_p, ne_Proposer_open_proposals__index_p, ne_Proposer_open_proposals__count_p, ne_Proposer_open_proposals__seen_p, ne_Proposer_open_proposals__next_slot_p, ne_Proposer_open_proposals__promises_p, ne_Proposer_open_proposals__proposals_p, ne_Proposer_open_proposals__voters_p, ne_Proposer_stop_ballot_p, ne_Proposer_stop_state_p, ne_Proposer_stop__index_p, ne_Proposer_stop__count_p, ne_Proposer_stop__seen_p, ne_Proposer_stop__next_slot_p, ne_Proposer_stop__promises_p, ne_Proposer_stop__proposals_p, ne_Proposer_stop__voters_p, ne_Proposer__forget_proposals_ballot_p, ne_Proposer__forget_proposals_state_p, ne_Proposer__forget_proposals__index_p, ne_Proposer__forget_proposals__count_p, ne_Proposer__forget_proposals__seen_p, ne_Proposer__forget_proposals__next_slot_p, ne_Proposer__forget_proposals__promises_p, ne_Proposer__forget_proposals__proposals_p, ne_Proposer__forget_proposals__voters_p]
theorem fl_Proposer_no__open_accepted {v0 v1 v2 v3 v4 v5 v6 v7 v8 : V} : (fl_Proposer v0 v1 v2 v3 v4 v5 v6 v7 v8).lookup ("_open_accepted" : Str) = none := by unfold fl_Proposer; simp [List.lookup, ne_Proposer_ballot_state, ne_Proposer_ballot__index, ne_Proposer_ballot__count, ne_Proposer_ballot__seen, ne_Proposer_ballot__next_slot, ne_Proposer_ballot__promises, ne_Proposer_ballot__proposals, ne_Proposer_ballot__voters, ne_Proposer_state_ballot, ne_Proposer_state__index, ne_Proposer_state__count, ne_Proposer_state__seen, ne_Proposer_state__next_slot, ne_Proposer_state__promises, ne_Proposer_state__proposals, ne_Proposer_state__voters, ne_Proposer__index_ballot, ne_Proposer__index_state, ne_Proposer__index__count, ne_Proposer__index__seen, ne_Proposer__index__next_slot, ne_Proposer__index__promises, ne_Proposer__index__proposals, ne_Proposer__index__voters, ne_Proposer__count_ballot, ne_Proposer__count_state, ne_Proposer__count__index, ne_Proposer__count__seen, ne_Proposer__count__next_slot, ne_Proposer__count__promises, ne_Proposer__count__proposals, ne_Proposer__count__voters, ne_Proposer__seen_ballot, ne_Proposer__seen_state, ne_Proposer__seen__index, ne_Proposer__seen__count, ne_Proposer__seen__next_slot, ne_Proposer__seen__promises, ne_Proposer__seen__proposals, ne_Proposer__seen__voters, ne_Proposer__next_slot_ballot, ne_Proposer__next_slot_state, ne_Proposer__next_slot__index, ne_Proposer__next_slot__count, ne_Proposer__next_slot__seen, ne_Proposer__next_slot__promises, ne_Proposer__next_slot__proposals, ne_Proposer__next_slot__voters, ne_Proposer__promises_ballot, ne_Proposer__promises_state, ne_Proposer__promises__index, ne_Proposer__promises__count, ne_Proposer__promises__seen, ne_Proposer__promises__next_slot, ne_Proposer__promises__proposals, ne_Proposer__promises__voters, ne_Proposer__proposals_ballot, ne_Proposer__proposals_state, ne_Proposer__proposals__index, ne_Proposer__proposals__count, ne_Proposer__proposals__seen, ne_Proposer__proposals__next_slot, ne_Proposer__proposals__promises, ne_Proposer__proposals__voters, ne_Proposer__voters_ballot, ne_Proposer__voters_state, ne_Proposer__voters__index, ne_Proposer__voters__count, ne_Proposer__voters__seen, ne_Proposer__voters__next_slot, ne_Proposer__voters__promises, ne_Proposer__voters__proposals, ne_Proposer_saw_ballot, ne_Proposer_saw_state, ne_Proposer_saw__index, ne_Proposer_saw__count, ne_Proposer_saw__seen, ne_Proposer_saw__next_slot, ne_Proposer_saw__promises, ne_Proposer_saw__proposals, ne_Proposer_saw__voters, ne_Proposer_begin_ballot, ne_Proposer_begin_state, ne_Proposer_begin__index, ne_Proposer_begin__count, ne_Proposer_begin__seen, ne_Proposer_begin__next_slot, ne_Proposer_begin__promises, ne_Proposer_begin__proposals, ne_Proposer_begin__voters, ne_Proposer_hear_promise_ballot, ne_Proposer_hear_promise_state, ne_Proposer_hear_promise__index, ne_Proposer_hear_promise__count, ne_Proposer_hear_promise__seen, ne_Proposer_hear_promise__next_slot, ne_Proposer_hear_promise__promises, ne_Proposer_hear_promise__proposals, ne_Proposer_hear_promise__voters, ne_Proposer__open_accepted_ballot, ne_Proposer__open_accepted_state, ne_Proposer__open_accepted__index, ne_Proposer__open_accepted__count, ne_Proposer__open_accepted__seen, ne_Proposer__open_accepted__next_slot, ne_Proposer__open_accepted__promises, ne_Proposer__open_accepted__proposals, ne_Proposer__open_accepted__voters, ne_Proposer__promised_pairs_ballot, ne_Proposer__promised_pairs_state, ne_Proposer__promised_pairs__index, ne_Proposer__promised_pairs__count, ne_Proposer__promised_pairs__seen, ne_Proposer__promised_pairs__next_slot, ne_Proposer__promised_pairs__promises, ne_Proposer__promised_pairs__proposals, ne_Proposer__promised_pairs__voters, ne_Proposer_propose_ballot, ne_Proposer_propose_state, ne_Proposer_propose__index, ne_Proposer_propose__count, ne_Proposer_propose__seen, ne_Proposer_propose__next_slot, ne_Proposer_propose__promises, ne_Proposer_propose__proposals, ne_Proposer_propose__voters, ne_Proposer_hear_accepted_ballot, ne_Proposer_hear_accepted_state, ne_Proposer_hear_accepted__index, ne_Proposer_hear_accepted__count, ne_Proposer_hear_accepted__seen, ne_Proposer_hear_accepted__next_slot, ne_Proposer_hear_accepted__promises, ne_Proposer_hear_accepted__proposals, ne_Proposer_hear_accepted__voters, ne_Proposer_open_proposals_ballot, ne_Proposer_open_proposals_state, ne_Proposer_open_proposals__index, ne_Proposer_open_proposals__count, ne_Proposer_open_proposals__seen, ne_Proposer_open_proposals__next_slot, ne_Proposer_open_proposals__promises, ne_Proposer_open_proposals__proposals, ne_Proposer_open_proposals__voters, ne_Proposer_stop_ballot, ne_Proposer_stop_state, ne_Proposer_stop__index, ne_Proposer_stop__count, ne_Proposer_stop__seen, ne_Proposer_stop__next_slot, ne_Proposer_stop__promises, ne_Proposer_stop__proposals, ne_Proposer_stop__voters, ne_Proposer__forget_proposals_ballot, ne_Proposer__forget_proposals_state, ne_Proposer__forget_proposals__index, ne_Proposer__forget_proposals__count, ne_Proposer__forget_proposals__seen, ne_Proposer__forget_proposals__next_slot, ne_Proposer__forget_proposals__promises, ne_Proposer__forget_proposals__proposals, ne_Proposer__forget_proposals__voters, ne_Proposer_ballot_state_p, ne_Proposer_ballot__index_p, ne_Proposer_ballot__count_p, ne_Proposer_ballot__seen_p, ne_Proposer_ballot__next_slot_p, ne_Proposer_ballot__promises_p, ne_Proposer_ballot__proposals_p, ne_Proposer_ballot__voters_p, ne_Proposer_state_ballot_p, ne_Proposer_state__index_p, ne_Proposer_state__count_p, ne_Proposer_state__seen_p, ne_Proposer_state__next_slot_p, ne_Proposer_state__promises_p, ne_Proposer_state__proposals_p, ne_Proposer_state__voters_p, ne_Proposer__index_ballot_p, ne_Proposer__index_state_p, ne_Proposer__index__count_p, ne_Proposer__index__seen_p, ne_Proposer__index__next_slot_p, ne_Proposer__index__promises_p, ne_Proposer__index__proposals_p, ne_Proposer__index__voters_p, ne_Proposer__count_ballot_p, ne_Proposer__count_state_p, ne_Proposer__count__index_p, ne_Proposer__count__seen_p, ne_Proposer__count__next_slot_p, ne_Proposer__count__promises_p, ne_Proposer__count__proposals_p, ne_Proposer__count__voters_p, ne_Proposer__seen_ballot_p, ne_Proposer__seen_state_p, ne_Proposer__seen__index_p, ne_Proposer__seen__count_p, ne_Proposer__seen__next_slot_p, ne_Proposer__seen__promises_p, ne_Proposer__seen__proposals_p, ne_Proposer__seen__voters_p, ne_Proposer__next_slot_ballot_p, ne_Proposer__next_slot_state_p, ne_Proposer__next_slot__index_p, ne_Proposer__next_slot__count_p, ne_Proposer__next_slot__seen_p, ne_Proposer__next_slot__promises_p, ne_Proposer__next_slot__proposals_p, ne_Proposer__next_slot__voters_p, ne_Proposer__promises_ballot_p, ne_Proposer__promises_state_p, ne_Proposer__promises__index_p, ne_Proposer__promises__count_p, ne_Proposer__promises__seen_p, ne_Proposer__promises__next_slot_p, ne_Proposer__promises__proposals_p, ne_Proposer__promises__voters_p, ne_Proposer__proposals_ballot_p, ne_Proposer__proposals_state_p, ne_Proposer__proposals__index_p, ne_Proposer__proposals__count_p, ne_Proposer__proposals__seen_p, ne_Proposer__proposals__next_slot_p, ne_Proposer__proposals__promises_p, ne_Proposer__proposals__voters_p, ne_Proposer__voters_ballot_p, ne_Proposer__voters_state_p, ne_Proposer__voters__index_p, ne_Proposer__voters__count_p, ne_Proposer__voters__seen_p, ne_Proposer__voters__next_slot_p, ne_Proposer__voters__promises_p, ne_Proposer__voters__proposals_p, ne_Proposer_saw_ballot_p, ne_Proposer_saw_state_p, ne_Proposer_saw__index_p, ne_Proposer_saw__count_p, ne_Proposer_saw__seen_p, ne_Proposer_saw__next_slot_p, ne_Proposer_saw__promises_p, ne_Proposer_saw__proposals_p, ne_Proposer_saw__voters_p, ne_Proposer_begin_ballot_p, ne_Proposer_begin_state_p, ne_Proposer_begin__index_p, ne_Proposer_begin__count_p, ne_Proposer_begin__seen_p, ne_Proposer_begin__next_slot_p, ne_Proposer_begin__promises_p, ne_Proposer_begin__proposals_p, ne_Proposer_begin__voters_p, ne_Proposer_hear_promise_ballot_p, ne_Proposer_hear_promise_state_p, ne_Proposer_hear_promise__index_p, ne_Proposer_hear_promise__count_p, ne_Proposer_hear_promise__seen_p, ne_Proposer_hear_promise__next_slot_p, ne_Proposer_hear_promise__promises_p, ne_Proposer_hear_promise__proposals_p, ne_Proposer_hear_promise__voters_p, ne_Proposer__open_accepted_ballot_p, ne_Proposer__open_accepted_state_p, ne_Proposer__open_accepted__index_p, ne_Proposer__open_accepted__count_p, ne_Proposer__open_accepted__seen_p, ne_Proposer__open_accepted__next_slot_p, ne_Proposer__open_accepted__promises_p, ne_Proposer__open_accepted__proposals_p, ne_Proposer__open_accepted__voters_p, ne_Proposer__promised_pairs_ballot_p, ne_Proposer__promised_pairs_state_p, ne_Proposer__promised_pairs__index_p, ne_Proposer__promised_pairs__count_p, ne_Proposer__promised_pairs__seen_p, ne_Proposer__promised_pairs__next_slot_p, ne_Proposer__promised_pairs__promises_p, ne_Proposer__promised_pairs__proposals_p, ne_Proposer__promised_pairs__voters_p, ne_Proposer_propose_ballot_p, ne_Proposer_propose_state_p, ne_Proposer_propose__index_p, ne_Proposer_propose__count_p, ne_Proposer_propose__seen_p, ne_Proposer_propose__next_slot_p, ne_Proposer_propose__promises_p, ne_Proposer_propose__proposals_p, ne_Proposer_propose__voters_p, ne_Proposer_hear_accepted_ballot_p, ne_Proposer_hear_accepted_state_p, ne_Proposer_hear_accepted__index_p, ne_Proposer_hear_accepted__count_p, ne_Proposer_hear_accepted__seen_p, ne_Proposer_hear_accepted__next_slot_p, ne_Proposer_hear_accepted__promises_p, ne_Proposer_hear_accepted__proposals_p, ne_Proposer_hear_accepted__voters_p, ne_Proposer_open_proposals_ballot_p, ne_Proposer_open_proposals_state_p, ne_Proposer_open_proposals__index_p, ne_Proposer_open_proposals__count_p, ne_Proposer_open_proposals__seen_p, ne_Proposer_open_proposals__next_slot_p, ne_Proposer_open_proposals__promises_p, ne_Proposer_open_proposals__proposals_p, ne_Proposer_open_proposals__voters_p, ne_Proposer_stop_ballot_p, ne_Proposer_stop_state_p, ne_Proposer_stop__index_p, ne_Proposer_stop__count_p, ne_Proposer_stop__seen_p, ne_Proposer_stop__next_slot_p, ne_Proposer_stop__promises_p, ne_Proposer_stop__proposals_p, ne_Proposer_stop__voters_p, ne_Proposer__forget_proposals_ballot_p, ne_Proposer__forget_proposals_state_p, ne_Proposer__forget_proposals__index_p, ne_Proposer__forget_proposals__count_p, ne_Proposer__forget_proposals__seen_p, ne_Proposer__forget_proposals__next_slot_p, ne_Proposer__forget_proposals__promises_p, ne_Proposer__forget_proposals__proposals_p, ne_Proposer__forget_proposals__voters_p]
theorem fl_Proposer_no__promised_pairs {v0 v1 v2 v3 v4 v5 v6 v7 v8 : V} : (fl_Proposer v0 v1 v2 v3 v4 v5 v6 v7 v8).lookup ("_promised_pairs" : Str) = none := by unfold fl_Proposer; simp [List.lookup, ne_Proposer_ballot_state, ne_Proposer_ballot__index, ne_Proposer_ballot__count, ne_Proposer_ballot__seen, ne_Proposer_ballot__next_slot, ne_Proposer_ballot__promises, ne_Proposer_ballot__proposals, ne_Proposer_ballot__voters, ne_Proposer_state_ballot, ne_Proposer_state__index, ne_Proposer_state__count, ne_Proposer_state__seen, ne_Proposer_state__next_slot, ne_Proposer_state__promises, ne_Proposer_state__proposals, ne_Proposer_state__voters, ne_Proposer__index_ballot, ne_Proposer__index_state, ne_Proposer__index__count, ne_Proposer__index__seen, ne_Proposer__index__next_slot, ne_Proposer__index__promises, ne_Proposer__index__proposals, ne_Proposer__index__voters, ne_Proposer__count_ballot, ne_Proposer__count_state, ne_Proposer__count__index, ne_Proposer__count__seen, ne_Proposer__count__next_slot, ne_Proposer__count__promises, ne_Proposer__count__proposals, ne_Proposer__count__voters, ne_Proposer__seen_ballot, ne_Proposer__seen_state, ne_Proposer__seen__index, ne_Proposer__seen__count, ne_Proposer__seen__next_slot, ne_Proposer__seen__promises, ne_Proposer__seen__proposals, ne_Proposer__seen__voters, ne_Proposer__next_slot_ballot, ne_Proposer__next_slot_state, ne_Proposer__next_slot__index, ne_Proposer__next_slot__count, ne_Proposer__next_slot__seen, ne_Proposer__next_slot__promises, ne_Proposer__next_slot__proposals, ne_Proposer__next_slot__voters, ne_Proposer__promises_ballot, ne_Proposer__promises_state, ne_Proposer__promises__index, ne_Proposer__promises__count, ne_Proposer__promises__seen, ne_Proposer__promises__next_slot, ne_Proposer__promises__proposals, ne_Proposer__promises__voters, ne_Proposer__proposals_ballot, ne_Proposer__proposals_state, ne_Proposer__proposals__index, ne_Proposer__proposals__count, ne_Proposer__proposals__seen, ne_Proposer__proposals__next_slot, ne_Proposer__proposals__promises, ne_Proposer__proposals__voters, ne_Proposer__voters_ballot, ne_Proposer__voters_state, ne_Proposer__voters__index, ne_Proposer__voters__count, ne_Proposer__voters__seen, ne_Proposer__voters__next_slot, ne_Proposer__voters__promises, ne_Proposer__voters__proposals, ne_Proposer_saw_ballot, ne_Proposer_saw_state, ne_Proposer_saw__index, ne_Proposer_saw__count, ne_Proposer_saw__seen, ne_Proposer_saw__next_slot, ne_Proposer_saw__promises, ne_Proposer_saw__proposals, ne_Proposer_saw__voters, ne_Proposer_begin_ballot, ne_Proposer_begin_state, ne_Proposer_begin__index, ne_Proposer_begin__count, ne_Proposer_begin__seen, ne_Proposer_begin__next_slot, ne_Proposer_begin__promises, ne_Proposer_begin__proposals, ne_Proposer_begin__voters, ne_Proposer_hear_promise_ballot, ne_Proposer_hear_promise_state, ne_Proposer_hear_promise__index, ne_Proposer_hear_promise__count, ne_Proposer_hear_promise__seen, ne_Proposer_hear_promise__next_slot, ne_Proposer_hear_promise__promises, ne_Proposer_hear_promise__proposals, ne_Proposer_hear_promise__voters, ne_Proposer__open_accepted_ballot, ne_Proposer__open_accepted_state, ne_Proposer__open_accepted__index, ne_Proposer__open_accepted__count, ne_Proposer__open_accepted__seen, ne_Proposer__open_accepted__next_slot, ne_Proposer__open_accepted__promises, ne_Proposer__open_accepted__proposals, ne_Proposer__open_accepted__voters, ne_Proposer__promised_pairs_ballot, ne_Proposer__promised_pairs_state, ne_Proposer__promised_pairs__index, ne_Proposer__promised_pairs__count, ne_Proposer__promised_pairs__seen, ne_Proposer__promised_pairs__next_slot, ne_Proposer__promised_pairs__promises, ne_Proposer__promised_pairs__proposals, ne_Proposer__promised_pairs__voters, ne_Proposer_propose_ballot, ne_Proposer_propose_state, ne_Proposer_propose__index, ne_Proposer_propose__count, ne_Proposer_propose__seen, ne_Proposer_propose__next_slot, ne_Proposer_propose__promises, ne_Proposer_propose__proposals, ne_Proposer_propose__voters, ne_Proposer_hear_accepted_ballot, ne_Proposer_hear_accepted_state, ne_Proposer_hear_accepted__index, ne_Proposer_hear_accepted__count, ne_Proposer_hear_accepted__seen, ne_Proposer_hear_accepted__next_slot, ne_Proposer_hear_accepted__promises, ne_Proposer_hear_accepted__proposals, ne_Proposer_hear_accepted__voters, ne_Proposer_open_proposals_ballot, ne_Proposer_open_proposals_state, ne_Proposer_open_proposals__index, ne_Proposer_open_proposals__count, ne_Proposer_open_proposals__seen, ne_Proposer_open_proposals__next_slot, ne_Proposer_open_proposals__promises, ne_Proposer_open_proposals__proposals, ne_Proposer_open_proposals__voters, ne_Proposer_stop_ballot, ne_Proposer_stop_state, ne_Proposer_stop__index, ne_Proposer_stop__count, ne_Proposer_stop__seen, ne_Proposer_stop__next_slot, ne_Proposer_stop__promises, ne_Proposer_stop__proposals, ne_Proposer_stop__voters, ne_Proposer__forget_proposals_ballot, ne_Proposer__forget_proposals_state, ne_Proposer__forget_proposals__index, ne_Proposer__forget_proposals__count, ne_Proposer__forget_proposals__seen, ne_Proposer__forget_proposals__next_slot, ne_Proposer__forget_proposals__promises, ne_Proposer__forget_proposals__proposals, ne_Proposer__forget_proposals__voters, ne_Proposer_ballot_state_p, ne_Proposer_ballot__index_p, ne_Proposer_ballot__count_p, ne_Proposer_ballot__seen_p, ne_Proposer_ballot__next_slot_p, ne_Proposer_ballot__promises_p, ne_Proposer_ballot__proposals_p, ne_Proposer_ballot__voters_p, ne_Proposer_state_ballot_p, ne_Proposer_state__index_p, ne_Proposer_state__count_p, ne_Proposer_state__seen_p, ne_Proposer_state__next_slot_p, ne_Proposer_state__promises_p, ne_Proposer_state__proposals_p, ne_Proposer_state__voters_p, ne_Proposer__index_ballot_p, ne_Proposer__index_state_p, ne_Proposer__index__count_p, ne_Proposer__index__seen_p, ne_Proposer__index__next_slot_p, ne_Proposer__index__promises_p, ne_Proposer__index__proposals_p, ne_Proposer__index__voters_p, ne_Proposer__count_ballot_p, ne_Proposer__count_state_p, ne_Proposer__count__index_p, ne_Proposer__count__seen_p, ne_Proposer__count__next_slot_p, ne_Proposer__count__promises_p, ne_Proposer__count__proposals_p, ne_Proposer__count__voters_p, ne_Proposer__seen_ballot_p, ne_Proposer__seen_state_p, ne_Proposer__seen__index_p, ne_Proposer__seen__count_p, ne_Proposer__seen__next_slot_p, ne_Proposer__seen__promises_p, ne_Proposer__seen__proposals_p, ne_Proposer__seen__voters_p, ne_Proposer__next_slot_ballot_p, ne_Proposer__next_slot_state_p, ne_Proposer__next_slot__index_p, ne_Proposer__next_slot__count_p, ne_Proposer__next_slot__seen_p, ne_Proposer__next_slot__promises_p, ne_Proposer__next_slot__proposals_p, ne_Proposer__next_slot__voters_p, ne_Proposer__promises_ballot_p, ne_Proposer__promises_state_p, ne_Proposer__promises__index_p, ne_Proposer__promises__count_p, ne_Proposer__promises__seen_p, ne_Proposer__promises__next_slot_p, ne_Proposer__promises__proposals_p, ne_Proposer__promises__voters_p, ne_Proposer__proposals_ballot_p, ne_Proposer__proposals_state_p, ne_Proposer__proposals__index_p, ne_Proposer__proposals__count_p, ne_Proposer__proposals__seen_p, ne_Proposer__proposals__next_slot_p, ne_Proposer__proposals__promises_p, ne_Proposer__proposals__voters_p, ne_Proposer__voters_ballot_p, ne_Proposer__voters_state_p, ne_Proposer__voters__index_p, ne_Proposer__voters__count_p, ne_Proposer__voters__seen_p, ne_Proposer__voters__next_slot_p, ne_Proposer__voters__promises_p, ne_Proposer__voters__proposals_p, ne_Proposer_saw_ballot_p, ne_Proposer_saw_state_p, ne_Proposer_saw__index_p, ne_Proposer_saw__count_p, ne_Proposer_saw__seen_p, ne_Proposer_saw__next_slot_p, ne_Proposer_saw__promises_p, ne_Proposer_saw__proposals_p, ne_Proposer_saw__voters_p, ne_Proposer_begin_ballot_p, ne_Proposer_begin_state_p, ne_Proposer_begin__index_p, ne_Proposer_begin__count_p, ne_Proposer_begin__seen_p, ne_Proposer_begin__next_slot_p, ne_Proposer_begin__promises_p, ne_Proposer_begin__proposals_p, ne_Proposer_begin__voters_p, ne_Proposer_hear_promise_ballot_p, ne_Proposer_hear_promise_state_p, ne_Proposer_hear_promise__index_p, ne_Proposer_hear_promise__count_p, ne_Proposer_hear_promise__seen_p, ne_Proposer_hear_promise__next_slot_p, ne_Proposer_hear_promise__promises_p, ne_Proposer_hear_promise__proposals_p, ne_Proposer_hear_promise__voters_p, ne_Proposer__open_accepted_ballot_p, ne_Proposer__open_accepted_state_p, ne_Proposer__open_accepted__index_p, ne_Proposer__open_accepted__count_p, ne_Proposer__open_accepted__seen_p, ne_Proposer__open_accepted__next_slot_p, ne_Proposer__open_accepted__promises_p, ne_Proposer__open_accepted__proposals_p, ne_Proposer__open_accepted__voters_p, ne_Proposer__promised_pairs_ballot_p, ne_Proposer__promised_pairs_state_p, ne_Proposer__promised_pairs__index_p, ne_Proposer__promised_pairs__count_p, ne_Proposer__promised_pairs__seen_p, ne_Proposer__promised_pairs__next_slot_p, ne_Proposer__promised_pairs__promises_p, ne_Proposer__promised_pairs__proposals_p, ne_Proposer__promised_pairs__voters_p, ne_Proposer_propose_ballot_p, ne_Proposer_propose_state_p, ne_Proposer_propose__index_p, ne_Proposer_propose__count_p, ne_Proposer_propose__seen_p, ne_Proposer_propose__next_slot_p, ne_Proposer_propose__promises_p, ne_Proposer_propose__proposals_p, ne_Proposer_propose__voters_p, ne_Proposer_hear_accepted_ballot_p, ne_Proposer_hear_accepted_state_p, ne_Proposer_hear_accepted__index_p, ne_Proposer_hear_accepted__count_p, ne_Proposer_hear_accepted__seen_p, ne_Proposer_hear_accepted__next_slot_p, ne_Proposer_hear_accepted__promises_p, ne_Proposer_hear_accepted__proposals_p, ne_Proposer_hear_accepted__voters_p, ne_Proposer_open_proposals_ballot_p, ne_Proposer_open_proposals_state_p, ne_Proposer_open_proposals__index_p, ne_Proposer_open_proposals__count_p, ne_Proposer_open_proposals__seen_p, ne_Proposer_open_proposals__next_slot_p, ne_Proposer_open_proposals__promises_p, ne_Proposer_open_proposals__proposals_p, ne_Proposer_open_proposals__voters_p, ne_Proposer_stop_ballot_p, ne_Proposer_stop_state_p, ne_Proposer_stop__index_p, ne_Proposer_stop__count_p, ne_Proposer_stop__seen_p, ne_Proposer_stop__next_slot_p, ne_Proposer_stop__promises_p, ne_Proposer_stop__proposals_p, ne_Proposer_stop__voters_p, ne_Proposer__forget_proposals_ballot_p, ne_Proposer__forget_proposals_state_p, ne_Proposer__forget_proposals__index_p, ne_Proposer__forget_proposals__count_p, ne_Proposer__forget_proposals__seen_p, ne_Proposer__forget_proposals__next_slot_p, ne_Proposer__forget_proposals__promises_p, ne_Proposer__forget_proposals__proposals_p, ne_Proposer__forget_proposals__voters_p]
theorem fl_Proposer_no_propose {v0 v1 v2 v3 v4 v5 v6 v7 v8 : V} : (fl_Proposer v0 v1 v2 v3 v4 v5 v6 v7 v8).lookup ("propose" : Str) = none := by unfold fl_Proposer; simp [List.lookup, ne_Proposer_ballot_state, ne_Proposer_ballot__index, ne_Proposer_ballot__count, ne_Proposer_ballot__seen, ne_Proposer_ballot__next_slot, ne_Proposer_ballot__promises, ne_Proposer_ballot__proposals, ne_Proposer_ballot__voters, ne_Proposer_state_ballot, ne_Proposer_state__index, ne_Proposer_state__count, ne_Proposer_state__seen, ne_Proposer_state__next_slot, ne_Proposer_state__promises, ne_Proposer_state__proposals, ne_Proposer_state__voters, ne_Proposer__index_ballot, ne_Proposer__index_state, ne_Proposer__index__count, ne_Proposer__index__seen, ne_Proposer__index__next_slot, ne_Proposer__index__promises, ne_Proposer__index__proposals, ne_Proposer__index__voters, ne_Proposer__count_ballot, ne_Proposer__count_state, ne_Proposer__count__index, ne_Proposer__count__seen, ne_Proposer__count__next_slot, ne_Proposer__count__promises, ne_Proposer__count__proposals, ne_Proposer__count__voters, ne_Proposer__seen_ballot, ne_Proposer__seen_state, ne_Proposer__seen__index, ne_Proposer__seen__count, ne_Proposer__seen__next_slot, ne_Proposer__seen__promises, ne_Proposer__seen__proposals, ne_Proposer__seen__voters, ne_Proposer__next_slot_ballot, ne_Proposer__next_slot_state, ne_Proposer__next_slot__index, ne_Proposer__next_slot__count, ne_Proposer__next_slot__seen, ne_Proposer__next_slot__promises, ne_Proposer__next_slot__proposals, ne_Proposer__next_slot__voters, ne_Proposer__promises_ballot, ne_Proposer__promises_state, ne_Proposer__promises__index, ne_Proposer__promises__count, ne_Proposer__promises__seen, ne_Proposer__promises__next_slot, ne_Proposer__promises__proposals, ne_Proposer__promises__voters, ne_Proposer__proposals_ballot, ne_Proposer__proposals_state, ne_Proposer__proposals__index, ne_Proposer__proposals__count, ne_Proposer__proposals__seen, ne_Proposer__proposals__next_slot, ne_Proposer__proposals__promises, ne_Proposer__proposals__voters, ne_Proposer__voters_ballot, ne_Proposer__voters_state, ne_Proposer__voters__index, ne_Proposer__voters__count, ne_Proposer__voters__seen, ne_Proposer__voters__next_slot, ne_Proposer__voters__promises, ne_Proposer__voters__proposals, ne_Proposer_saw_ballot, ne_Proposer_saw_state, ne_Proposer_saw__index, ne_Proposer_saw__count, ne_Proposer_saw__seen, ne_Proposer_saw__next_slot, ne_Proposer_saw__promises, ne_Proposer_saw__proposals, ne_Proposer_saw__voters, ne_Proposer_begin_ballot, ne_Proposer_begin_state, ne_Proposer_begin__index, ne_Proposer_begin__count, ne_Proposer_begin__seen, ne_Proposer_begin__next_slot, ne_Proposer_begin__promises, ne_Proposer_begin__proposals, ne_Proposer_begin__voters, ne_Proposer_hear_promise_ballot, ne_Proposer_hear_promise_state, ne_Proposer_hear_promise__index, ne_Proposer_hear_promise__count, ne_Proposer_hear_promise__seen, ne_Proposer_hear_promise__next_slot, ne_Proposer_hear_promise__promises, ne_Proposer_hear_promise__proposals, ne_Proposer_hear_promise__voters, ne_Proposer__open_accepted_ballot, ne_Proposer__open_accepted_state, ne_Proposer__open_accepted__index, ne_Proposer__open_accepted__count, ne_Proposer__open_accepted__seen, ne_Proposer__open_accepted__next_slot, ne_Proposer__open_accepted__promises, ne_Proposer__open_accepted__proposals, ne_Proposer__open_accepted__voters, ne_Proposer__promised_pairs_ballot, ne_Proposer__promised_pairs_state, ne_Proposer__promised_pairs__index, ne_Proposer__promised_pairs__count, ne_Proposer__promised_pairs__seen, ne_Proposer__promised_pairs__next_slot, ne_Proposer__promised_pairs__promises, ne_Proposer__promised_pairs__proposals, ne_Proposer__promised_pairs__voters, ne_Proposer_propose_ballot, ne_Proposer_propose_state, ne_Proposer_propose__index, ne_Proposer_propose__count, ne_Proposer_propose__seen, ne_Proposer_propose__next_slot, ne_Proposer_propose__promises, ne_Proposer_propose__proposals, ne_Proposer_propose__voters, ne_Proposer_hear_accepted_ballot, ne_Proposer_hear_accepted_state, ne_Proposer_hear_accepted__index, ne_Proposer_hear_accepted__count, ne_Proposer_hear_accepted__seen, ne_Proposer_hear_accepted__next_slot, ne_Proposer_hear_accepted__promises, ne_Proposer_hear_accepted__proposals, ne_Proposer_hear_accepted__voters, ne_Proposer_open_proposals_ballot, ne_Proposer_open_proposals_state, ne_Proposer_open_proposals__index, ne_Proposer_open_proposals__count, ne_Proposer_open_proposals__seen, ne_Proposer_open_proposals__next_slot, ne_Proposer_open_proposals__promises, ne_Proposer_open_proposals__proposals, ne_Proposer_open_proposals__voters, ne_Proposer_stop_ballot, ne_Proposer_stop_state, ne_Proposer_stop__index, ne_Proposer_stop__count, ne_Proposer_stop__seen, ne_Proposer_stop__next_slot, ne_Proposer_stop__promises, ne_Proposer_stop__proposals, ne_Proposer_stop__voters, ne_Proposer__forget_proposals_ballot, ne_Proposer__forget_proposals_state, ne_Proposer__forget_proposals__index, ne_Proposer__forget_proposals__count, ne_Proposer__forget_proposals__seen, ne_Proposer__forget_proposals__next_slot, ne_Proposer__forget_proposals__promises, ne_Proposer__forget_proposals__proposals, ne_Proposer__forget_proposals__voters, ne_Proposer_ballot_state_p, ne_Proposer_ballot__index_p, ne_Proposer_ballot__count_p, ne_Proposer_ballot__seen_p, ne_Proposer_ballot__next_slot_p, ne_Proposer_ballot__promises_p, ne_Proposer_ballot__proposals_p, ne_Proposer_ballot__voters_p, ne_Proposer_state_ballot_p, ne_Proposer_state__index_p, ne_Proposer_state__count_p, ne_Proposer_state__seen_p, ne_Proposer_state__next_slot_p, ne_Proposer_state__promises_p, ne_Proposer_state__proposals_p, ne_Proposer_state__voters_p, ne_Proposer__index_ballot_p, ne_Proposer__index_state_p, ne_Proposer__index__count_p, ne_Proposer__index__seen_p, ne_Proposer__index__next_slot_p, ne_Proposer__index__promises_p, ne_Proposer__index__proposals_p, ne_Proposer__index__voters_p, ne_Proposer__count_ballot_p, ne_Proposer__count_state_p, ne_Proposer__count__index_p, ne_Proposer__count__seen_p, ne_Proposer__count__next_slot_p, ne_Proposer__count__promises_p, ne_Proposer__count__proposals_p, ne_Proposer__count__voters_p, ne_Proposer__seen_ballot_p, ne_Proposer__seen_state_p, ne_Proposer__seen__index_p, ne_Proposer__seen__count_p, ne_Proposer__seen__next_slot_p, ne_Proposer__seen__promises_p, ne_Proposer__seen__proposals_p, ne_Proposer__seen__voters_p, ne_Proposer__next_slot_ballot_p, ne_Proposer__next_slot_state_p, ne_Proposer__next_slot__index_p, ne_Proposer__next_slot__count_p, ne_Proposer__next_slot__seen_p, ne_Proposer__next_slot__promises_p, ne_Proposer__next_slot__proposals_p, ne_Proposer__next_slot__voters_p, ne_Proposer__promises_ballot_p, ne_Proposer__promises_state_p, ne_Proposer__promises__index_p, ne_Proposer__promises__count_p, ne_Proposer__promises__seen_p, ne_Proposer__promises__next_slot_p, ne_Proposer__promises__proposals_p, ne_Proposer__promises__voters_p, ne_Proposer__proposals_ballot_p, ne_Proposer__proposals_state_p, ne_Proposer__proposals__index_p, ne_Proposer__proposals__count_p, ne_Proposer__proposals__seen_p, ne_Proposer__proposals__next_slot_p, ne_Proposer__proposals__promises_p, ne_Proposer__proposals__voters_p, ne_Proposer__voters_ballot_p, ne_Proposer__voters_state_p, ne_Proposer__voters__index_p, ne_Proposer__voters__count_p, ne_Proposer__voters__seen_p, ne_Proposer__voters__next_slot_p, ne_Proposer__voters__promises_p, ne_Proposer__voters__proposals_p, ne_Proposer_saw_ballot_p, ne_Proposer_saw_state_p, ne_Proposer_saw__index_p, ne_Proposer_saw__count_p, ne_Proposer_saw__seen_p, ne_Proposer_saw__next_slot_p, ne_Proposer_saw__promises_p, ne_Proposer_saw__proposals_p, ne_Proposer_saw__voters_p, ne_Proposer_begin_ballot_p, ne_Proposer_begin_state_p, ne_Proposer_begin__index_p, ne_Proposer_begin__count_p, ne_Proposer_begin__seen_p, ne_Proposer_begin__next_slot_p, ne_Proposer_begin__promises_p, ne_Proposer_begin__proposals_p, ne_Proposer_begin__voters_p, ne_Proposer_hear_promise_ballot_p, ne_Proposer_hear_promise_state_p, ne_Proposer_hear_promise__index_p, ne_Proposer_hear_promise__count_p, ne_Proposer_hear_promise__seen_p, ne_Proposer_hear_promise__next_slot_p, ne_Proposer_hear_promise__promises_p, ne_Proposer_hear_promise__proposals_p, ne_Proposer_hear_promise__voters_p, ne_Proposer__open_accepted_ballot_p, ne_Proposer__open_accepted_state_p, ne_Proposer__open_accepted__index_p, ne_Proposer__open_accepted__count_p, ne_Proposer__open_accepted__seen_p, ne_Proposer__open_accepted__next_slot_p, ne_Proposer__open_accepted__promises_p, ne_Proposer__open_accepted__proposals_p, ne_Proposer__open_accepted__voters_p, ne_Proposer__promised_pairs_ballot_p, ne_Proposer__promised_pairs_state_p, ne_Proposer__promised_pairs__index_p, ne_Proposer__promised_pairs__count_p, ne_Proposer__promised_pairs__seen_p, ne_Proposer__promised_pairs__next_slot_p, ne_Proposer__promised_pairs__promises_p, ne_Proposer__promised_pairs__proposals_p, ne_Proposer__promised_pairs__voters_p, ne_Proposer_propose_ballot_p, ne_Proposer_propose_state_p, ne_Proposer_propose__index_p, ne_Proposer_propose__count_p, ne_Proposer_propose__seen_p, ne_Proposer_propose__next_slot_p, ne_Proposer_propose__promises_p, ne_Proposer_propose__proposals_p, ne_Proposer_propose__voters_p, ne_Proposer_hear_accepted_ballot_p, ne_Proposer_hear_accepted_state_p, ne_Proposer_hear_accepted__index_p, ne_Proposer_hear_accepted__count_p, ne_Proposer_hear_accepted__seen_p, ne_Proposer_hear_accepted__next_slot_p, ne_Proposer_hear_accepted__promises_p, ne_Proposer_hear_accepted__proposals_p, ne_Proposer_hear_accepted__voters_p, ne_Proposer_open_proposals_ballot_p, ne_Proposer_open_proposals_state_p, ne_Proposer_open_proposals__index_p, ne_Proposer_open_proposals__count_p, ne_Proposer_open_proposals__seen_p, ne_Proposer_open_proposals__next_slot_p, ne_Proposer_open_proposals__promises_p, ne_Proposer_open_proposals__proposals_p, ne_Proposer_open_proposals__voters_p, ne_Proposer_stop_ballot_p, ne_Proposer_stop_state_p, ne_Proposer_stop__index_p, ne_Proposer_stop__count_p, ne_Proposer_stop__seen_p, ne_Proposer_stop__next_slot_p, ne_Proposer_stop__promises_p, ne_Proposer_stop__proposals_p, ne_Proposer_stop__voters_p, ne_Proposer__forget_proposals_ballot_p, ne_Proposer__forget_proposals_state_p, ne_Proposer__forget_proposals__index_p, ne_Proposer__forget_proposals__count_p, ne_Proposer__forget_proposals__seen_p, ne_Proposer__forget_proposals__next_slot_p, ne_Proposer__forget_proposals__promises_p, ne_Proposer__forget_proposals__proposals_p, ne_Proposer__forget_proposals__voters_p]
theorem fl_Proposer_no_hear_accepted {v0 v1 v2 v3 v4 v5 v6 v7 v8 : V} : (fl_Proposer v0 v1 v2 v3 v4 v5 v6 v7 v8).lookup ("hear_accepted" : Str) = none := by unfold fl_Proposer; simp [List.lookup, ne_Proposer_ballot_state, ne_Proposer_ballot__index, ne_Proposer_ballot__count, ne_Proposer_ballot__seen, ne_Proposer_ballot__next_slot, ne_Proposer_ballot__promises, ne_Proposer_ballot__proposals, ne_Proposer_ballot__voters, ne_Proposer_state_ballot, ne_Proposer_state__index, ne_Proposer_state__count, ne_Proposer_state__seen, ne_Proposer_state__next_slot, ne_Proposer_state__promises, ne_Proposer_state__proposals, ne_Proposer_state__voters, ne_Proposer__index_ballot, ne_Proposer__index_state, ne_Proposer__index__count, ne_Proposer__index__seen, ne_Proposer__index__next_slot, ne_Proposer__index__promises, ne_Proposer__index__proposals, ne_Proposer__index__voters, ne_Proposer__count_ballot, ne_Proposer__count_state, ne_Proposer__count__index, ne_Proposer__count__seen, ne_Proposer__count__next_slot, ne_Proposer__count__promises, ne_Proposer__count__proposals, ne_Proposer__count__voters, ne_Proposer__seen_ballot, ne_Proposer__seen_state, ne_Proposer__seen__index, ne_Proposer__seen__count, ne_Proposer__seen__next_slot, ne_Proposer__seen__promises, ne_Proposer__seen__proposals, ne_Proposer__seen__voters, ne_Proposer__next_slot_ballot, ne_Proposer__next_slot_state, ne_Proposer__next_slot__index, ne_Proposer__next_slot__count, ne_Proposer__next_slot__seen, ne_Proposer__next_slot__promises, ne_Proposer__next_slot__proposals, ne_Proposer__next_slot__voters, ne_Proposer__promises_ballot, ne_Proposer__promises_state, ne_Proposer__promises__index, ne_Proposer__promises__count, ne_Proposer__promises__seen, ne_Proposer__promises__next_slot, ne_Proposer__promises__proposals, ne_Proposer__promises__voters, ne_Proposer__proposals_ballot, ne_Proposer__proposals_state, ne_Proposer__proposals__index, ne_Proposer__proposals__count, ne_Proposer__proposals__seen, ne_Proposer__proposals__next_slot, ne_Proposer__proposals__promises, ne_Proposer__proposals__voters, ne_Proposer__voters_ballot, ne_Proposer__voters_state, ne_Proposer__voters__index, ne_Proposer__voters__count, ne_Proposer__voters__seen, ne_Proposer__voters__next_slot, ne_Proposer__voters__promises, ne_Proposer__voters__proposals, ne_Proposer_saw_ballot, ne_Proposer_saw_state, ne_Proposer_saw__index, ne_Proposer_saw__count, ne_Proposer_saw__seen, ne_Proposer_saw__next_slot, ne_Proposer_saw__promises, ne_Proposer_saw__proposals, ne_Proposer_saw__voters, ne_Proposer_begin_ballot, ne_Proposer_begin_state, ne_Proposer_begin__index, ne_Proposer_begin__count, ne_Proposer_begin__seen, ne_Proposer_begin__next_slot, ne_Proposer_begin__promises, ne_Proposer_begin__proposals, ne_Proposer_begin__voters, ne_Proposer_hear_promise_ballot, ne_Proposer_hear_promise_state, ne_Proposer_hear_promise__index, ne_Proposer_hear_promise__count, ne_Proposer_hear_promise__seen, ne_Proposer_hear_promise__next_slot, ne_Proposer_hear_promise__promises, ne_Proposer_hear_promise__proposals, ne_Proposer_hear_promise__voters, ne_Proposer__open_accepted_ballot, ne_Proposer__open_accepted_state, ne_Proposer__open_accepted__index, ne_Proposer__open_accepted__count, ne_Proposer__open_accepted__seen, ne_Proposer__open_accepted__next_slot, ne_Proposer__open_accepted__promises, ne_Proposer__open_accepted__proposals, ne_Proposer__open_accepted__voters, ne_Proposer__promised_pairs_ballot, ne_Proposer__promised_pairs_state, ne_Proposer__promised_pairs__index, ne_Proposer__promised_pairs__count, ne_Proposer__promised_pairs__seen, ne_Proposer__promised_pairs__next_slot, ne_Proposer__promised_pairs__promises, ne_Proposer__promised_pairs__proposals, ne_Proposer__promised_pairs__voters, ne_Proposer_propose_ballot, ne_Proposer_propose_state, ne_Proposer_propose__index, ne_Proposer_propose__count, ne_Proposer_propose__seen, ne_Proposer_propose__next_slot, ne_Proposer_propose__promises, ne_Proposer_propose__proposals, ne_Proposer_propose__voters, ne_Proposer_hear_accepted_ballot, ne_Proposer_hear_accepted_state, ne_Proposer_hear_accepted__index, ne_Proposer_hear_accepted__count, ne_Proposer_hear_accepted__seen, ne_Proposer_hear_accepted__next_slot, ne_Proposer_hear_accepted__promises, ne_Proposer_hear_accepted__proposals, ne_Proposer_hear_accepted__voters, ne_Proposer_open_proposals_ballot, ne_Proposer_open_proposals_state, ne_Proposer_open_proposals__index, ne_Proposer_open_proposals__count, ne_Proposer_open_proposals__seen, ne_Proposer_open_proposals__next_slot, ne_Proposer_open_proposals__promises, ne_Proposer_open_proposals__proposals, ne_Proposer_open_proposals__voters, ne_Proposer_stop_ballot, ne_Proposer_stop_state, ne_Proposer_stop__index, ne_Proposer_stop__count, ne_Proposer_stop__seen, ne_Proposer_stop__next_slot, ne_Proposer_stop__promises, ne_Proposer_stop__proposals, ne_Proposer_stop__voters, ne_Proposer__forget_proposals_ballot, ne_Proposer__forget_proposals_state, ne_Proposer__forget_proposals__index, ne_Proposer__forget_proposals__count, ne_Proposer__forget_proposals__seen, ne_Proposer__forget_proposals__next_slot, ne_Proposer__forget_proposals__promises, ne_Proposer__forget_proposals__proposals, ne_Proposer__forget_proposals__voters, ne_Proposer_ballot_state_p, ne_Proposer_ballot__index_p, ne_Proposer_ballot__count_p, ne_Proposer_ballot__seen_p, ne_Proposer_ballot__next_slot_p, ne_Proposer_ballot__promises_p, ne_Proposer_ballot__proposals_p, ne_Proposer_ballot__voters_p, ne_Proposer_state_ballot_p, ne_Proposer_state__index_p, ne_Proposer_state__count_p, ne_Proposer_state__seen_p, ne_Proposer_state__next_slot_p, ne_Proposer_state__promises_p, ne_Proposer_state__proposals_p, ne_Proposer_state__voters_p, ne_Proposer__index_ballot_p, ne_Proposer__index_state_p, ne_Proposer__index__count_p, ne_Proposer__index__seen_p, ne_Proposer__index__next_slot_p, ne_Proposer__index__promises_p, ne_Proposer__index__proposals_p, ne_Proposer__index__voters_p, ne_Proposer__count_ballot_p, ne_Proposer__count_state_p, ne_Proposer__count__index_p, ne_Proposer__count__seen_p, ne_Proposer__count__next_slot_p, ne_Proposer__count__promises_p, ne_Proposer__count__proposals_p, ne_Proposer__count__voters_p, ne_Proposer__seen_ballot_p, ne_Proposer__seen_state_p, ne_Proposer__seen__index_p, ne_Proposer__seen__count_p, ne_Proposer__seen__next_slot_p, ne_Proposer__seen__promises_p, ne_Proposer__seen__proposals_p, ne_Proposer__seen__voters_p, ne_Proposer__next_slot_ballot_p, ne_Proposer__next_slot_state_p, ne_Proposer__next_slot__index_p, ne_Proposer__next_slot__count_p, ne_Proposer__next_slot__seen_p, ne_Proposer__next_slot__promises_p, ne_Proposer__next_slot__proposals_p, ne_Proposer__next_slot__voters_p, ne_Proposer__promises_ballot_p, ne_Proposer__promises_state_p, ne_Proposer__promises__index_p, ne_Proposer__promises__count_p, ne_Proposer__promises__seen_p, ne_Proposer__promises__next_slot_p, ne_Proposer__promises__proposals_p, ne_Proposer__promises__voters_p, ne_Proposer__proposals_ballot_p, ne_Proposer__proposals_state_p, ne_Proposer__proposals__index_p, ne_Proposer__proposals__count_p, ne_Proposer__proposals__seen_p, ne_Proposer__proposals__next_slot_p, ne_Proposer__proposals__promises_p, ne_Proposer__proposals__voters_p, ne_Proposer__voters_ballot_p, ne_Proposer__voters_state_p, ne_Proposer__voters__index_p, ne_Proposer__voters__count_p, ne_Proposer__voters__seen_p, ne_Proposer__voters__next_slot_p, ne_Proposer__voters__promises_p, ne_Proposer__voters__proposals_p, ne_Proposer_saw_ballot_p, ne_Proposer_saw_state_p, ne_Proposer_saw__index_p, ne_Proposer_saw__count_p, ne_Proposer_saw__seen_p, ne_Proposer_saw__next_slot_p, ne_Proposer_saw__promises_p, ne_Proposer_saw__proposals_p, ne_Proposer_saw__voters_p, ne_Proposer_begin_ballot_p, ne_Proposer_begin_state_p, ne_Proposer_begin__index_p, ne_Proposer_begin__count_p, ne_Proposer_begin__seen_p, ne_Proposer_begin__next_slot_p, ne_Proposer_begin__promises_p, ne_Proposer_begin__proposals_p, ne_Proposer_begin__voters_p, ne_Proposer_hear_promise_ballot_p, ne_Proposer_hear_promise_state_p, ne_Proposer_hear_promise__index_p, ne_Proposer_hear_promise__count_p, ne_Proposer_hear_promise__seen_p, ne_Proposer_hear_promise__next_slot_p, ne_Proposer_hear_promise__promises_p, ne_Proposer_hear_promise__proposals_p, ne_Proposer_hear_promise__voters_p, ne_Proposer__open_accepted_ballot_p, ne_Proposer__open_accepted_state_p, ne_Proposer__open_accepted__index_p, ne_Proposer__open_accepted__count_p, ne_Proposer__open_accepted__seen_p, ne_Proposer__open_accepted__next_slot_p, ne_Proposer__open_accepted__promises_p, ne_Proposer__open_accepted__proposals_p, ne_Proposer__open_accepted__voters_p, ne_Proposer__promised_pairs_ballot_p, ne_Proposer__promised_pairs_state_p, ne_Proposer__promised_pairs__index_p, ne_Proposer__promised_pairs__count_p, ne_Proposer__promised_pairs__seen_p, ne_Proposer__promised_pairs__next_slot_p, ne_Proposer__promised_pairs__promises_p, ne_Proposer__promised_pairs__proposals_p, ne_Proposer__promised_pairs__voters_p, ne_Proposer_propose_ballot_p, ne_Proposer_propose_state_p, ne_Proposer_propose__index_p, ne_Proposer_propose__count_p, ne_Proposer_propose__seen_p, ne_Proposer_propose__next_slot_p, ne_Proposer_propose__promises_p, ne_Proposer_propose__proposals_p, ne_Proposer_propose__voters_p, ne_Proposer_hear_accepted_ballot_p, ne_Proposer_hear_accepted_state_p, ne_Proposer_hear_accepted__index_p, ne_Proposer_hear_accepted__count_p, ne_Proposer_hear_accepted__seen_p, ne_Proposer_hear_accepted__next_slot_p, ne_Proposer_hear_accepted__promises_p, ne_Proposer_hear_accepted__proposals_p, ne_Proposer_hear_accepted__voters_p, ne_Proposer_open_proposals_ballot_p, ne_Proposer_open_proposals_state_p, ne_Proposer_open_proposals__index_p, ne_Proposer_open_proposals__count_p, ne_Proposer_open_proposals__seen_p, ne_Proposer_open_proposals__next_slot_p, ne_Proposer_open_proposals__promises_p, ne_Proposer_open_proposals__proposals_p, ne_Proposer_open_proposals__voters_p, ne_Proposer_stop_ballot_p, ne_Proposer_stop_state_p, ne_Proposer_stop__index_p, ne_Proposer_stop__count_p, ne_Proposer_stop__seen_p, ne_Proposer_stop__next_slot_p, ne_Proposer_stop__promises_p, ne_Proposer_stop__proposals_p, ne_Proposer_stop__voters_p, ne_Proposer__forget_proposals_ballot_p, ne_Proposer__forget_proposals_state_p, ne_Proposer__forget_proposals__index_p, ne_Proposer__forget_proposals__count_p, ne_Proposer__forget_proposals__seen_p, ne_Proposer__forget_proposals__next_slot_p, ne_Proposer__forget_proposals__promises_p, ne_Proposer__forget_proposals__proposals_p, ne_Proposer__forget_proposals__voters_p]
theorem fl_Proposer_no_open_proposals {v0 v1 v2 v3 v4 v5 v6 v7 v8 : V} : (fl_Proposer v0 v1 v2 v3 v4 v5 v6 v7 v8).lookup ("open_proposals" : Str) = none := by unfold fl_Proposer; simp [List.lookup, ne_Proposer_ballot_state, ne_Proposer_ballot__index, ne_Proposer_ballot__count, ne_Proposer_ballot__seen, ne_Proposer_ballot__next_slot, ne_Proposer_ballot__promises, ne_Proposer_ballot__proposals, ne_Proposer_ballot__voters, ne_Proposer_state_ballot, ne_Proposer_state__index, ne_Proposer_state__count, ne_Proposer_state__seen, ne_Proposer_state__next_slot, ne_Proposer_state__promises, ne_Proposer_state__proposals, ne_Proposer_state__voters, ne_Proposer__index_ballot, ne_Proposer__index_state, ne_Proposer__index__count, ne_Proposer__index__seen, ne_Proposer__index__next_slot, ne_Proposer__index__promises, ne_Proposer__index__proposals, ne_Proposer__index__voters, ne_Proposer__count_ballot, ne_Proposer__count_state, ne_Proposer__count__index, ne_Proposer__count__seen, ne_Proposer__count__next_slot, ne_Proposer__count__promises, ne_Proposer__count__proposals, ne_Proposer__count__voters, ne_Proposer__seen_ballot, ne_Proposer__seen_state, ne_Proposer__seen__index, ne_Proposer__seen__count, ne_Proposer__seen__next_slot, ne_Proposer__seen__promises, ne_Proposer__seen__proposals, ne_Proposer__seen__voters, ne_Proposer__next_slot_ballot, ne_Proposer__next_slot_state, ne_Proposer__next_slot__index, ne_Proposer__next_slot__count, ne_Proposer__next_slot__seen, ne_Proposer__next_slot__promises, ne_Proposer__next_slot__proposals, ne_Proposer__next_slot__voters, ne_Proposer__promises_ballot, ne_Proposer__promises_state, ne_Proposer__promises__index, ne_Proposer__promises__count, ne_Proposer__promises__seen, ne_Proposer__promises__next_slot, ne_Proposer__promises__proposals, ne_Proposer__promises__voters, ne_Proposer__proposals_ballot, ne_Proposer__proposals_state, ne_Proposer__proposals__index, ne_Proposer__proposals__count, ne_Proposer__proposals__seen, ne_Proposer__proposals__next_slot, ne_Proposer__proposals__promises, ne_Proposer__proposals__voters, ne_Proposer__voters_ballot, ne_Proposer__voters_state, ne_Proposer__voters__index, ne_Proposer__voters__count, ne_Proposer__voters__seen, ne_Proposer__voters__next_slot, ne_Proposer__voters__promises, ne_Proposer__voters__proposals, ne_Proposer_saw_ballot, ne_Proposer_saw_state, ne_Proposer_saw__index, ne_Proposer_saw__count, ne_Proposer_saw__seen, ne_Proposer_saw__next_slot, ne_Proposer_saw__promises, ne_Proposer_saw__proposals, ne_Proposer_saw__voters, ne_Proposer_begin_ballot, ne_Proposer_begin_state, ne_Proposer_begin__index, ne_Proposer_begin__count, ne_Proposer_begin__seen, ne_Proposer_begin__next_slot, ne_Proposer_begin__promises, ne_Proposer_begin__proposals, ne_Proposer_begin__voters, ne_Proposer_hear_promise_ballot, ne_Proposer_hear_promise_state, ne_Proposer_hear_promise__index, ne_Proposer_hear_promise__count, ne_Proposer_hear_promise__seen, ne_Proposer_hear_promise__next_slot, ne_Proposer_hear_promise__promises, ne_Proposer_hear_promise__proposals, ne_Proposer_hear_promise__voters, ne_Proposer__open_accepted_ballot, ne_Proposer__open_accepted_state, ne_Proposer__open_accepted__index, ne_Proposer__open_accepted__count, ne_Proposer__open_accepted__seen, ne_Proposer__open_accepted__next_slot, ne_Proposer__open_accepted__promises, ne_Proposer__open_accepted__proposals, ne_Proposer__open_accepted__voters, ne_Proposer__promised_pairs_ballot, ne_Proposer__promised_pairs_state, ne_Proposer__promised_pairs__index, ne_Proposer__promised_pairs__count, ne_Proposer__promised_pairs__seen, ne_Proposer__promised_pairs__next_slot, ne_Proposer__promised_pairs__promises, ne_Proposer__promised_pairs__proposals, ne_Proposer__promised_pairs__voters, ne_Proposer_propose_ballot, ne_Proposer_propose_state, ne_Proposer_propose__index, ne_Proposer_propose__count, ne_Proposer_propose__seen, ne_Proposer_propose__next_slot, ne_Proposer_propose__promises, ne_Proposer_propose__proposals, ne_Proposer_propose__voters, ne_Proposer_hear_accepted_ballot, ne_Proposer_hear_accepted_state, ne_Proposer_hear_accepted__index, ne_Proposer_hear_accepted__count, ne_Proposer_hear_accepted__seen, ne_Proposer_hear_accepted__next_slot, ne_Proposer_hear_accepted__promises, ne_Proposer_hear_accepted__proposals, ne_Proposer_hear_accepted__voters, ne_Proposer_open_proposals_ballot, ne_Proposer_open_proposals_state, ne_Proposer_open_proposals__index, ne_Proposer_open_proposals__count, ne_Proposer_open_proposals__seen, ne_Proposer_open_proposals__next_slot, ne_Proposer_open_proposals__promises, ne_Proposer_open_proposals__proposals, ne_Proposer_open_proposals__voters, ne_Proposer_stop_ballot, ne_Proposer_stop_state, ne_Proposer_stop__index, ne_Proposer_stop__count, ne_Proposer_stop__seen, ne_Proposer_stop__next_slot, ne_Proposer_stop__promises, ne_Proposer_stop__proposals, ne_Proposer_stop__voters, ne_Proposer__forget_proposals_ballot, ne_Proposer__forget_proposals_state, ne_Proposer__forget_proposals__index, ne_Proposer__forget_proposals__count, ne_Proposer__forget_proposals__seen, ne_Proposer__forget_proposals__next_slot, ne_Proposer__forget_proposals__promises, ne_Proposer__forget_proposals__proposals, ne_Proposer__forget_proposals__voters, ne_Proposer_ballot_state_p, ne_Proposer_ballot__index_p, ne_Proposer_ballot__count_p, ne_Proposer_ballot__seen_p, ne_Proposer_ballot__next_slot_p, ne_Proposer_ballot__promises_p, ne_Proposer_ballot__proposals_p, ne_Proposer_ballot__voters_p, ne_Proposer_state_ballot_p, ne_Proposer_state__index_p, ne_Proposer_state__count_p, ne_Proposer_state__seen_p, ne_Proposer_state__next_slot_p, ne_Proposer_state__promises_p, ne_Proposer_state__proposals_p, ne_Proposer_state__voters_p, ne_Proposer__index_ballot_p, ne_Proposer__index_state_p, ne_Proposer__index__count_p, ne_Proposer__index__seen_p, ne_Proposer__index__next_slot_p, ne_Proposer__index__promises_p, ne_Proposer__index__proposals_p, ne_Proposer__index__voters_p, ne_Proposer__count_ballot_p, ne_Proposer__count_state_p, ne_Proposer__count__index_p, ne_Proposer__count__seen_p, ne_Proposer__count__next_slot_p, ne_Proposer__count__promises_p, ne_Proposer__count__proposals_p, ne_Proposer__count__voters_p, ne_Proposer__seen_ballot_p, ne_Proposer__seen_state_p, ne_Proposer__seen__index_p, ne_Proposer__seen__count_p, ne_Proposer__seen__next_slot_p, ne_Proposer__seen__promises_p, ne_Proposer__seen__proposals_p, ne_Proposer__seen__voters_p, ne_Proposer__next_slot_ballot_p, ne_Proposer__next_slot_state_p, ne_Proposer__next_slot__index_p, ne_Proposer__next_slot__count_p, ne_Proposer__next_slot__seen_p, ne_Proposer__next_slot__promises_p, ne_Proposer__next_slot__proposals_p, ne_Proposer__next_slot__voters_p, ne_Proposer__promises_ballot_p, ne_Proposer__promises_state_p, ne_Proposer__promises__index_p, ne_Proposer__promises__count_p, ne_Proposer__promises__seen_p, ne_Proposer__promises__next_slot_p, ne_Proposer__promises__proposals_p, ne_Proposer__promises__voters_p, ne_Proposer__proposals_ballot_p, ne_Proposer__proposals_state_p, ne_Proposer__proposals__index_p, ne_Proposer__proposals__count_p, ne_Proposer__proposals__seen_p, ne_Proposer__proposals__next_slot_p, ne_Proposer__proposals__promises_p, ne_Proposer__proposals__voters_p, ne_Proposer__voters_ballot_p, ne_Proposer__voters_state_p, ne_Proposer__voters__index_p, ne_Proposer__voters__count_p, ne_Proposer__voters__seen_p, ne_Proposer__voters__next_slot_p, ne_Proposer__voters__promises_p, ne_Proposer__voters__proposals_p, ne_Proposer_saw_ballot_p, ne_Proposer_saw_state_p, ne_Proposer_saw__index_p, ne_Proposer_saw__count_p, ne_Proposer_saw__seen_p, ne_Proposer_saw__next_slot_p, ne_Proposer_saw__promises_p, ne_Proposer_saw__proposals_p, ne_Proposer_saw__voters_p, ne_Proposer_begin_ballot_p, ne_Proposer_begin_state_p, ne_Proposer_begin__index_p, ne_Proposer_begin__count_p, ne_Proposer_begin__seen_p, ne_Proposer_begin__next_slot_p, ne_Proposer_begin__promises_p, ne_Proposer_begin__proposals_p, ne_Proposer_begin__voters_p, ne_Proposer_hear_promise_ballot_p, ne_Proposer_hear_promise_state_p, ne_Proposer_hear_promise__index_p, ne_Proposer_hear_promise__count_p, ne_Proposer_hear_promise__seen_p, ne_Proposer_hear_promise__next_slot_p, ne_Proposer_hear_promise__promises_p, ne_Proposer_hear_promise__proposals_p, ne_Proposer_hear_promise__voters_p, ne_Proposer__open_accepted_ballot_p, ne_Proposer__open_accepted_state_p, ne_Proposer__open_accepted__index_p, ne_Proposer__open_accepted__count_p, ne_Proposer__open_accepted__seen_p, ne_Proposer__open_accepted__next_slot_p, ne_Proposer__open_accepted__promises_p, ne_Proposer__open_accepted__proposals_p, ne_Proposer__open_accepted__voters_p, ne_Proposer__promised_pairs_ballot_p, ne_Proposer__promised_pairs_state_p, ne_Proposer__promised_pairs__index_p, ne_Proposer__promised_pairs__count_p, ne_Proposer__promised_pairs__seen_p, ne_Proposer__promised_pairs__next_slot_p, ne_Proposer__promised_pairs__promises_p, ne_Proposer__promised_pairs__proposals_p, ne_Proposer__promised_pairs__voters_p, ne_Proposer_propose_ballot_p, ne_Proposer_propose_state_p, ne_Proposer_propose__index_p, ne_Proposer_propose__count_p, ne_Proposer_propose__seen_p, ne_Proposer_propose__next_slot_p, ne_Proposer_propose__promises_p, ne_Proposer_propose__proposals_p, ne_Proposer_propose__voters_p, ne_Proposer_hear_accepted_ballot_p, ne_Proposer_hear_accepted_state_p, ne_Proposer_hear_accepted__index_p, ne_Proposer_hear_accepted__count_p, ne_Proposer_hear_accepted__seen_p, ne_Proposer_hear_accepted__next_slot_p, ne_Proposer_hear_accepted__promises_p, ne_Proposer_hear_accepted__proposals_p, ne_Proposer_hear_accepted__voters_p, ne_Proposer_open_proposals_ballot_p, ne_Proposer_open_proposals_state_p, ne_Proposer_open_proposals__index_p, ne_Proposer_open_proposals__count_p, ne_Proposer_open_proposals__seen_p, ne_Proposer_open_proposals__next_slot_p, ne_Proposer_open_proposals__promises_p, ne_Proposer_open_proposals__proposals_p, ne_Proposer_open_proposals__voters_p, ne_Proposer_stop_ballot_p, ne_Proposer_stop_state_p, ne_Proposer_stop__index_p, ne_Proposer_stop__count_p, ne_Proposer_stop__seen_p, ne_Proposer_stop__next_slot_p, ne_Proposer_stop__promises_p, ne_Proposer_stop__proposals_p, ne_Proposer_stop__voters_p, ne_Proposer__forget_proposals_ballot_p, ne_Proposer__forget_proposals_state_p, ne_Proposer__forget_proposals__index_p, ne_Proposer__forget_proposals__count_p, ne_Proposer__forget_proposals__seen_p, ne_Proposer__forget_proposals__next_slot_p, ne_Proposer__forget_proposals__promises_p, ne_Proposer__forget_proposals__proposals_p, ne_Proposer__forget_proposals__voters_p]
theorem fl_Proposer_no_stop {v0 v1 v2 v3 v4 v5 v6 v7 v8 : V} : (fl_Proposer v0 v1 v2 v3 v4 v5 v6 v7 v8).lookup ("stop" : Str) = none := by unfold fl_Proposer; simp [List.lookup, ne_Proposer_ballot_state, ne_Proposer_ballot__index, ne_Proposer_ballot__count, ne_Proposer_ballot__seen, ne_Proposer_ballot__next_slot, ne_Proposer_ballot__promises, ne_Proposer_ballot__proposals, ne_Proposer_ballot__voters, ne_Proposer_state_ballot, ne_Proposer_state__index, ne_Proposer_state__count, ne_Proposer_state__seen, ne_Proposer_state__next_slot, ne_Proposer_state__promises, ne_Proposer_state__proposals, ne_Proposer_state__voters, ne_Proposer__index_ballot, ne_Proposer__index_state, ne_Proposer__index__count, ne_Proposer__index__seen, ne_Proposer__index__next_slot, ne_Proposer__index__promises, ne_Proposer__index__proposals, ne_Proposer__index__voters, ne_Proposer__count_ballot, ne_Proposer__count_state, ne_Proposer__count__index, ne_Proposer__count__seen, ne_Proposer__count__next_slot, ne_Proposer__count__promises, ne_Proposer__count__proposals, ne_Proposer__count__voters, ne_Proposer__seen_ballot, ne_Proposer__seen_state, ne_Proposer__seen__index, ne_Proposer__seen__count, ne_Proposer__seen__next_slot, ne_Proposer__seen__promises, ne_Proposer__seen__proposals, ne_Proposer__seen__voters, ne_Proposer__next_slot_ballot, ne_Proposer__next_slot_state, ne_Proposer__next_slot__index, ne_Proposer__next_slot__count, ne_Proposer__next_slot__seen, ne_Proposer__next_slot__promises, ne_Proposer__next_slot__proposals, ne_Proposer__next_slot__voters, ne_Proposer__promises_ballot, ne_Proposer__promises_state, ne_Proposer__promises__index, ne_Proposer__promises__count, ne_Proposer__promises__seen, ne_Proposer__promises__next_slot, ne_Proposer__promises__proposals, ne_Proposer__promises__voters, ne_Proposer__proposals_ballot, ne_Proposer__proposals_state, ne_Proposer__proposals__index, ne_Proposer__proposals__count, ne_Proposer__proposals__seen, ne_Proposer__proposals__next_slot, ne_Proposer__proposals__promises, ne_Proposer__proposals__voters, ne_Proposer__voters_ballot, ne_Proposer__voters_state, ne_Proposer__voters__index, ne_Proposer__voters__count, ne_Proposer__voters__seen, ne_Proposer__voters__next_slot, ne_Proposer__voters__promises, ne_Proposer__voters__proposals, ne_Proposer_saw_ballot, ne_Proposer_saw_state, ne_Proposer_saw__index, ne_Proposer_saw__count, ne_Proposer_saw__seen, ne_Proposer_saw__next_slot, ne_Proposer_saw__promises, ne_Proposer_saw__proposals, ne_Proposer_saw__voters, ne_Proposer_begin_ballot, ne_Proposer_begin_state, ne_Proposer_begin__index, ne_Proposer_begin__count, ne_Proposer_begin__seen, ne_Proposer_begin__next_slot, ne_Proposer_begin__promises, ne_Proposer_begin__proposals, ne_Proposer_begin__voters, ne_Proposer_hear_promise_ballot, ne_Proposer_hear_promise_state, ne_Proposer_hear_promise__index, ne_Proposer_hear_promise__count, ne_Proposer_hear_promise__seen, ne_Proposer_hear_promise__next_slot, ne_Proposer_hear_promise__promises, ne_Proposer_hear_promise__proposals, ne_Proposer_hear_promise__voters, ne_Proposer__open_accepted_ballot, ne_Proposer__open_accepted_state, ne_Proposer__open_accepted__index, ne_Proposer__open_accepted__count, ne_Proposer__open_accepted__seen, ne_Proposer__open_accepted__next_slot, ne_Proposer__open_accepted__promises, ne_Proposer__open_accepted__proposals, ne_Proposer__open_accepted__voters, ne_Proposer__promised_pairs_ballot, ne_Proposer__promised_pairs_state, ne_Proposer__promised_pairs__index, ne_Proposer__promised_pairs__count, ne_Proposer__promised_pairs__seen, ne_Proposer__promised_pairs__next_slot, ne_Proposer__promised_pairs__promises, ne_Proposer__promised_pairs__proposals, ne_Proposer__promised_pairs__voters, ne_Proposer_propose_ballot, ne_Proposer_propose_state, ne_Proposer_propose__index, ne_Proposer_propose__count, ne_Proposer_propose__seen, ne_Proposer_propose__next_slot, ne_Proposer_propose__promises, ne_Proposer_propose__proposals, ne_Proposer_propose__voters, ne_Proposer_hear_accepted_ballot, ne_Proposer_hear_accepted_state, ne_Proposer_hear_accepted__index, ne_Proposer_hear_accepted__count, ne_Proposer_hear_accepted__seen, ne_Proposer_hear_accepted__next_slot, ne_Proposer_hear_accepted__promises, ne_Proposer_hear_accepted__proposals, ne_Proposer_hear_accepted__voters, ne_Proposer_open_proposals_ballot, ne_Proposer_open_proposals_state, ne_Proposer_open_proposals__index, ne_Proposer_open_proposals__count, ne_Proposer_open_proposals__seen, ne_Proposer_open_proposals__next_slot, ne_Proposer_open_proposals__promises, ne_Proposer_open_proposals__proposals, ne_Proposer_open_proposals__voters, ne_Proposer_stop_ballot, ne_Proposer_stop_state, ne_Proposer_stop__index, ne_Proposer_stop__count, ne_Proposer_stop__seen, ne_Proposer_stop__next_slot, ne_Proposer_stop__promises, ne_Proposer_stop__proposals, ne_Proposer_stop__voters, ne_Proposer__forget_proposals_ballot, ne_Proposer__forget_proposals_state, ne_Proposer__forget_proposals__index, ne_Proposer__forget_proposals__count, ne_Proposer__forget_proposals__seen, ne_Proposer__forget_proposals__next_slot, ne_Proposer__forget_proposals__promises, ne_Proposer__forget_proposals__proposals, ne_Proposer__forget_proposals__voters, ne_Proposer_ballot_state_p, ne_Proposer_ballot__index_p, ne_Proposer_ballot__count_p, ne_Proposer_ballot__seen_p, ne_Proposer_ballot__next_slot_p, ne_Proposer_ballot__promises_p, ne_Proposer_ballot__proposals_p, ne_Proposer_ballot__voters_p, ne_Proposer_state_ballot_p, ne_Proposer_state__index_p, ne_Proposer_state__count_p, ne_Proposer_state__seen_p, ne_Proposer_state__next_slot_p, ne_Proposer_state__promises_p, ne_Proposer_state__proposals_p, ne_Proposer_state__voters_p, ne_Proposer__index_ballot_p, ne_Proposer__index_state_p, ne_Proposer__index__count_p, ne_Proposer__index__seen_p, ne_Proposer__index__next_slot_p, ne_Proposer__index__promises_p, ne_Proposer__index__proposals_p, ne_Proposer__index__voters_p, ne_Proposer__count_ballot_p, ne_Proposer__count_state_p, ne_Proposer__count__index_p, ne_Proposer__count__seen_p, ne_Proposer__count__next_slot_p, ne_Proposer__count__promises_p, ne_Proposer__count__proposals_p, ne_Proposer__count__voters_p, ne_Proposer__seen_ballot_p, ne_Proposer__seen_state_p, ne_Proposer__seen__index_p, ne_Proposer__seen__count_p, ne_Proposer__seen__next_slot_p, ne_Proposer__seen__promises_p, ne_Proposer__seen__proposals_p, ne_Proposer__seen__voters_p, ne_Proposer__next_slot_ballot_p, ne_Proposer__next_slot_state_p, ne_Proposer__next_slot__index_p, ne_Proposer__next_slot__count_p, ne_Proposer__next_slot__seen_p, ne_Proposer__next_slot__promises_p, ne_Proposer__next_slot__proposals_p, ne_Proposer__next_slot__voters_p, ne_Proposer__promises_ballot_p, ne_Proposer__promises_state_p, ne_Proposer__promises__index_p, ne_Proposer__promises__count_p, ne_Proposer__promises__seen_p, ne_Proposer__promises__next_slot_p, ne_Proposer__promises__proposals_p, ne_Proposer__promises__voters_p, ne_Proposer__proposals_ballot_p, ne_Proposer__proposals_state_p, ne_Proposer__proposals__index_p, ne_Proposer__proposals__count_p, ne_Proposer__proposals__seen_p, ne_Proposer__proposals__next_slot_p, ne_Proposer__proposals__promises_p, ne_Proposer__proposals__voters_p, ne_Proposer__voters_ballot_p, ne_Proposer__voters_state_p, ne_Proposer__voters__index_p, ne_Proposer__voters__count_p, ne_Proposer__voters__seen_p, ne_Proposer__voters__next_slot_p, ne_Proposer__voters__promises_p, ne_Proposer__voters__proposals_p, ne_Proposer_saw_ballot_p, ne_Proposer_saw_state_p, ne_Proposer_saw__index_p, ne_Proposer_saw__count_p, ne_Proposer_saw__seen_p, ne_Proposer_saw__next_slot_p, ne_Proposer_saw__promises_p, ne_Proposer_saw__proposals_p, ne_Proposer_saw__voters_p, ne_Proposer_begin_ballot_p, ne_Proposer_begin_state_p, ne_Proposer_begin__index_p, ne_Proposer_begin__count_p, ne_Proposer_begin__seen_p, ne_Proposer_begin__next_slot_p, ne_Proposer_begin__promises_p, ne_Proposer_begin__proposals_p, ne_Proposer_begin__voters_p, ne_Proposer_hear_promise_ballot_p, ne_Proposer_hear_promise_state_p, ne_Proposer_hear_promise__index_p, ne_Proposer_hear_promise__count_p, ne_Proposer_hear_promise__seen_p, ne_Proposer_hear_promise__next_slot_p, ne_Proposer_hear_promise__promises_p, ne_Proposer_hear_promise__proposals_p, ne_Proposer_hear_promise__voters_p, ne_Proposer__open_accepted_ballot_p, ne_Proposer__open_accepted_state_p, ne_Proposer__open_accepted__index_p, ne_Proposer__open_accepted__count_p, ne_Proposer__open_accepted__seen_p, ne_Proposer__open_accepted__next_slot_p, ne_Proposer__open_accepted__promises_p, ne_Proposer__open_accepted__proposals_p, ne_Proposer__open_accepted__voters_p, ne_Proposer__promised_pairs_ballot_p, ne_Proposer__promised_pairs_state_p, ne_Proposer__promised_pairs__index_p, ne_Proposer__promised_pairs__count_p, ne_Proposer__promised_pairs__seen_p, ne_Proposer__promised_pairs__next_slot_p, ne_Proposer__promised_pairs__promises_p, ne_Proposer__promised_pairs__proposals_p, ne_Proposer__promised_pairs__voters_p, ne_Proposer_propose_ballot_p, ne_Proposer_propose_state_p, ne_Proposer_propose__index_p, ne_Proposer_propose__count_p, ne_Proposer_propose__seen_p, ne_Proposer_propose__next_slot_p, ne_Proposer_propose__promises_p, ne_Proposer_propose__proposals_p, ne_Proposer_propose__voters_p, ne_Proposer_hear_accepted_ballot_p, ne_Proposer_hear_accepted_state_p, ne_Proposer_hear_accepted__index_p, ne_Proposer_hear_accepted__count_p, ne_Proposer_hear_accepted__seen_p, ne_Proposer_hear_accepted__next_slot_p, ne_Proposer_hear_accepted__promises_p, ne_Proposer_hear_accepted__proposals_p, ne_Proposer_hear_accepted__voters_p, ne_Proposer_open_proposals_ballot_p, ne_Proposer_open_proposals_state_p, ne_Proposer_open_proposals__index_p, ne_Proposer_open_proposals__count_p, ne_Proposer_open_proposals__seen_p, ne_Proposer_open_proposals__next_slot_p, ne_Proposer_open_proposals__promises_p, ne_Proposer_open_proposals__proposals_p, ne_Proposer_open_proposals__voters_p, ne_Proposer_stop_ballot_p, ne_Proposer_stop_state_p, ne_Proposer_stop__index_p, ne_Proposer_stop__count_p, ne_Proposer_stop__seen_p, ne_Proposer_stop__next_slot_p, ne_Proposer_stop__promises_p, ne_Proposer_stop__proposals_p, ne_Proposer_stop__voters_p, ne_Proposer__forget_proposals_ballot_p, ne_Proposer__forget_proposals_state_p, ne_Proposer__forget_proposals__index_p, ne_Proposer__forget_proposals__count_p, ne_Proposer__forget_proposals__seen_p, ne_Proposer__forget_proposals__next_slot_p, ne_Proposer__forget_proposals__promises_p, ne_Proposer__forget_proposals__proposals_p, ne_Proposer__forget_proposals__voters_p]
theorem fl_Proposer_no__forget_proposals {v0 v1 v2 v3 v4 v5 v6 v7 v8 : V} : (fl_Proposer v0 v1 v2 v3 v4 v5 v6 v7 v8).lookup ("_forget_proposals" : Str) = none := by unfold fl_Proposer; simp [List.lookup, ne_Proposer_ballot_state, ne_Proposer_ballot__index, ne_Proposer_ballot__count, ne_Proposer_ballot__seen, ne_Proposer_ballot__next_slot, ne_Proposer_ballot__promises, ne_Proposer_ballot__proposals, ne_Proposer_ballot__voters, ne_Proposer_state_ballot, ne_Proposer_state__index, ne_Proposer_state__count, ne_Proposer_state__seen, ne_Proposer_state__next_slot, ne_Proposer_state__promises, ne_Proposer_state__proposals, ne_Proposer_state__voters, ne_Proposer__index_ballot, ne_Proposer__index_state, ne_Proposer__index__count, ne_Proposer__index__seen, ne_Proposer__index__next_slot, ne_Proposer__index__promises, ne_Proposer__index__proposals, ne_Proposer__index__voters, ne_Proposer__count_ballot, ne_Proposer__count_state, ne_Proposer__count__index, ne_Proposer__count__seen, ne_Proposer__count__next_slot, ne_Proposer__count__promises, ne_Proposer__count__proposals, ne_Proposer__count__voters, ne_Proposer__seen_ballot, ne_Proposer__seen_state, ne_Proposer__seen__index, ne_Proposer__seen__count, ne_Proposer__seen__next_slot, ne_Proposer__seen__promises, ne_Proposer__seen__proposals, ne_Proposer__seen__voters, ne_Proposer__next_slot_ballot, ne_Proposer__next_slot_state, ne_Proposer__next_slot__index, ne_Proposer__next_slot__count, ne_Proposer__next_slot__seen, ne_Proposer__next_slot__promises, ne_Proposer__next_slot__proposals, ne_Proposer__next_slot__voters, ne_Proposer__promises_ballot, ne_Proposer__promises_state, ne_Proposer__promises__index, ne_Proposer__promises__count, ne_Proposer__promises__seen, ne_Proposer__promises__next_slot, ne_Proposer__promises__proposals, ne_Proposer__promises__voters, ne_Proposer__proposals_ballot, ne_Proposer__proposals_state, ne_Proposer__proposals__index, ne_Proposer__proposals__count, ne_Proposer__proposals__seen, ne_Proposer__proposals__next_slot, ne_Proposer__proposals__promises, ne_Proposer__proposals__voters, ne_Proposer__voters_ballot, ne_Proposer__voters_state, ne_Proposer__voters__index, ne_Proposer__voters__count, ne_Proposer__voters__seen, ne_Proposer__voters__next_slot, ne_Proposer__voters__promises, ne_Proposer__voters__proposals, ne_Proposer_saw_ballot, ne_Proposer_saw_state, ne_Proposer_saw__index, ne_Proposer_saw__count, ne_Proposer_saw__seen, ne_Proposer_saw__next_slot, ne_Proposer_saw__promises, ne_Proposer_saw__proposals, ne_Proposer_saw__voters, ne_Proposer_begin_ballot, ne_Proposer_begin_state, ne_Proposer_begin__index, ne_Proposer_begin__count, ne_Proposer_begin__seen, ne_Proposer_begin__next_slot, ne_Proposer_begin__promises, ne_Proposer_begin__proposals, ne_Proposer_begin__voters, ne_Proposer_hear_promise_ballot, ne_Proposer_hear_promise_state, ne_Proposer_hear_promise__index, ne_Proposer_hear_promise__count, ne_Proposer_hear_promise__seen, ne_Proposer_hear_promise__next_slot, ne_Proposer_hear_promise__promises, ne_Proposer_hear_promise__proposals, ne_Proposer_hear_promise__voters, ne_Proposer__open_accepted_ballot, ne_Proposer__open_accepted_state, ne_Proposer__open_accepted__index, ne_Proposer__open_accepted__count, ne_Proposer__open_accepted__seen, ne_Proposer__open_accepted__next_slot, ne_Proposer__open_accepted__promises, ne_Proposer__open_accepted__proposals, ne_Proposer__open_accepted__voters, ne_Proposer__promised_pairs_ballot, ne_Proposer__promised_pairs_state, ne_Proposer__promised_pairs__index, ne_Proposer__promised_pairs__count, ne_Proposer__promised_pairs__seen, ne_Proposer__promised_pairs__next_slot, ne_Proposer__promised_pairs__promises, ne_Proposer__promised_pairs__proposals, ne_Proposer__promised_pairs__voters, ne_Proposer_propose_ballot, ne_Proposer_propose_state, ne_Proposer_propose__index, ne_Proposer_propose__count, ne_Proposer_propose__seen, ne_Proposer_propose__next_slot, ne_Proposer_propose__promises, ne_Proposer_propose__proposals, ne_Proposer_propose__voters, ne_Proposer_hear_accepted_ballot, ne_Proposer_hear_accepted_state, ne_Proposer_hear_accepted__index, ne_Proposer_hear_accepted__count, ne_Proposer_hear_accepted__seen, ne_Proposer_hear_accepted__next_slot, ne_Proposer_hear_accepted__promises, ne_Proposer_hear_accepted__proposals, ne_Proposer_hear_accepted__voters, ne_Proposer_open_proposals_ballot, ne_Proposer_open_proposals_state, ne_Proposer_open_proposals__index, ne_Proposer_open_proposals__count, ne_Proposer_open_proposals__seen, ne_Proposer_open_proposals__next_slot, ne_Proposer_open_proposals__promises, ne_Proposer_open_proposals__proposals, ne_Proposer_open_proposals__voters, ne_Proposer_stop_ballot, ne_Proposer_stop_state, ne_Proposer_stop__index, ne_Proposer_stop__count, ne_Proposer_stop__seen, ne_Proposer_stop__next_slot, ne_Proposer_stop__promises, ne_Proposer_stop__proposals, ne_Proposer_stop__voters, ne_Proposer__forget_proposals_ballot, ne_Proposer__forget_proposals_state, ne_Proposer__forget_proposals__index, ne_Proposer__forget_proposals__count, ne_Proposer__forget_proposals__seen, ne_Proposer__forget_proposals__next_slot, ne_Proposer__forget_proposals__promises, ne_Proposer__forget_proposals__proposals, ne_Proposer__forget_proposals__voters, ne_Proposer_ballot_state_p, ne_Proposer_ballot__index_p, ne_Proposer_ballot__count_p, ne_Proposer_ballot__seen_p, ne_Proposer_ballot__next_slot_p, ne_Proposer_ballot__promises_p, ne_Proposer_ballot__proposals_p, ne_Proposer_ballot__voters_p, ne_Proposer_state_ballot_p, ne_Proposer_state__index_p, ne_Proposer_state__count_p, ne_Proposer_state__seen_p, ne_Proposer_state__next_slot_p, ne_Proposer_state__promises_p, ne_Proposer_state__proposals_p, ne_Proposer_state__voters_p, ne_Proposer__index_ballot_p, ne_Proposer__index_state_p, ne_Proposer__index__count_p, ne_Proposer__index__seen_p, ne_Proposer__index__next_slot_p, ne_Proposer__index__promises_p, ne_Proposer__index__proposals_p, ne_Proposer__index__voters_p, ne_Proposer__count_ballot_p, ne_Proposer__count_state_p, ne_Proposer__count__index_p, ne_Proposer__count__seen_p, ne_Proposer__count__next_slot_p, ne_Proposer__count__promises_p, ne_Proposer__count__proposals_p, ne_Proposer__count__voters_p, ne_Proposer__seen_ballot_p, ne_Proposer__seen_state_p, ne_Proposer__seen__index_p, ne_Proposer__seen__count_p, ne_Proposer__seen__next_slot_p, ne_Proposer__seen__promises_p, ne_Proposer__seen__proposals_p, ne_Proposer__seen__voters_p, ne_Proposer__next_slot_ballot_p, ne_Proposer__next_slot_state_p, ne_Proposer__next_slot__index_p, ne_Proposer__next_slot__count_p, ne_Proposer__next_slot__seen_p, ne_Proposer__next_slot__promises_p, ne_Proposer__next_slot__proposals_p, ne_Proposer__next_slot__voters_p, ne_Proposer__promises_ballot_p, ne_Proposer__promises_state_p, ne_Proposer__promises__index_p, ne_Proposer__promises__count_p, ne_Proposer__promises__seen_p, ne_Proposer__promises__next_slot_p, ne_Proposer__promises__proposals_p, ne_Proposer__promises__voters_p, ne_Proposer__proposals_ballot_p, ne_Proposer__proposals_state_p, ne_Proposer__proposals__index_p, ne_Proposer__proposals__count_p, ne_Proposer__proposals__seen_p, ne_Proposer__proposals__next_slot_p, ne_Proposer__proposals__promises_p, ne_Proposer__proposals__voters_p, ne_Proposer__voters_ballot_p, ne_Proposer__voters_state_p, ne_Proposer__voters__index_p, ne_Proposer__voters__count_p, ne_Proposer__voters__seen_p, ne_Proposer__voters__next_slot_p, ne_Proposer__voters__promises_p, ne_Proposer__voters__proposals_p, ne_Proposer_saw_ballot_p, ne_Proposer_saw_state_p, ne_Proposer_saw__index_p, ne_Proposer_saw__count_p, ne_Proposer_saw__seen_p, ne_Proposer_saw__next_slot_p, ne_Proposer_saw__promises_p, ne_Proposer_saw__proposals_p, ne_Proposer_saw__voters_p, ne_Proposer_begin_ballot_p, ne_Proposer_begin_state_p, ne_Proposer_begin__index_p, ne_Proposer_begin__count_p, ne_Proposer_begin__seen_p, ne_Proposer_begin__next_slot_p, ne_Proposer_begin__promises_p, ne_Proposer_begin__proposals_p, ne_Proposer_begin__voters_p, ne_Proposer_hear_promise_ballot_p, ne_Proposer_hear_promise_state_p, ne_Proposer_hear_promise__index_p, ne_Proposer_hear_promise__count_p, ne_Proposer_hear_promise__seen_p, ne_Proposer_hear_promise__next_slot_p, ne_Proposer_hear_promise__promises_p, ne_Proposer_hear_promise__proposals_p, ne_Proposer_hear_promise__voters_p, ne_Proposer__open_accepted_ballot_p, ne_Proposer__open_accepted_state_p, ne_Proposer__open_accepted__index_p, ne_Proposer__open_accepted__count_p, ne_Proposer__open_accepted__seen_p, ne_Proposer__open_accepted__next_slot_p, ne_Proposer__open_accepted__promises_p, ne_Proposer__open_accepted__proposals_p, ne_Proposer__open_accepted__voters_p, ne_Proposer__promised_pairs_ballot_p, ne_Proposer__promised_pairs_state_p, ne_Proposer__promised_pairs__index_p, ne_Proposer__promised_pairs__count_p, ne_Proposer__promised_pairs__seen_p, ne_Proposer__promised_pairs__next_slot_p, ne_Proposer__promised_pairs__promises_p, ne_Proposer__promised_pairs__proposals_p, ne_Proposer__promised_pairs__voters_p, ne_Proposer_propose_ballot_p, ne_Proposer_propose_state_p, ne_Proposer_propose__index_p, ne_Proposer_propose__count_p, ne_Proposer_propose__seen_p, ne_Proposer_propose__next_slot_p, ne_Proposer_propose__promises_p, ne_Proposer_propose__proposals_p, ne_Proposer_propose__voters_p, ne_Proposer_hear_accepted_ballot_p, ne_Proposer_hear_accepted_state_p, ne_Proposer_hear_accepted__index_p, ne_Proposer_hear_accepted__count_p, ne_Proposer_hear_accepted__seen_p, ne_Proposer_hear_accepted__next_slot_p, ne_Proposer_hear_accepted__promises_p, ne_Proposer_hear_accepted__proposals_p, ne_Proposer_hear_accepted__voters_p, ne_Proposer_open_proposals_ballot_p, ne_Proposer_open_proposals_state_p, ne_Proposer_open_proposals__index_p, ne_Proposer_open_proposals__count_p, ne_Proposer_open_proposals__seen_p, ne_Proposer_open_proposals__next_slot_p, ne_Proposer_open_proposals__promises_p, ne_Proposer_open_proposals__proposals_p, ne_Proposer_open_proposals__voters_p, ne_Proposer_stop_ballot_p, ne_Proposer_stop_state_p, ne_Proposer_stop__index_p, ne_Proposer_stop__count_p, ne_Proposer_stop__seen_p, ne_Proposer_stop__next_slot_p, ne_Proposer_stop__promises_p, ne_Proposer_stop__proposals_p, ne_Proposer_stop__voters_p, ne_Proposer__forget_proposals_ballot_p, ne_Proposer__forget_proposals_state_p, ne_Proposer__forget_proposals__index_p, ne_Proposer__forget_proposals__count_p, ne_Proposer__forget_proposals__seen_p, ne_Proposer__forget_proposals__next_slot_p, ne_Proposer__forget_proposals__promises_p, ne_Proposer__forget_proposals__proposals_p, ne_Proposer__forget_proposals__voters_p]
theorem fl_Proposer_new {v0 v1 v2 v3 v4 v5 v6 v7 v8 : V} : putF ("_voters" : Str) v8 (putF ("_proposals" : Str) v7 (putF ("_promises" : Str) v6 (putF ("_next_slot" : Str) v5 (putF ("_seen" : Str) v4 (putF ("_count" : Str) v3 (putF ("_index" : Str) v2 (putF ("state" : Str) v1 (putF ("ballot" : Str) v0 ([]))))))))) = fl_Proposer v0 v1 v2 v3 v4 v5 v6 v7 v8 := by unfold fl_Proposer; simp [putF, ne_Proposer_ballot_state, ne_Proposer_ballot__index, ne_Proposer_ballot__count, ne_Proposer_ballot__seen, ne_Proposer_ballot__next_slot, ne_Proposer_ballot__promises, ne_Proposer_ballot__proposals, ne_Proposer_ballot__voters, ne_Proposer_state_ballot, ne_Proposer_state__index, ne_Proposer_state__count, ne_Proposer_state__seen, ne_Proposer_state__next_slot, ne_Proposer_state__promises, ne_Proposer_state__proposals, ne_Proposer_state__voters, ne_Proposer__index_ballot, ne_Proposer__index_state, ne_Proposer__index__count, ne_Proposer__index__seen, ne_Proposer__index__next_slot, ne_Proposer__index__promises, ne_Proposer__index__proposals, ne_Proposer__index__voters, ne_Proposer__count_ballot, ne_Proposer__count_state, ne_Proposer__count__index, ne_Proposer__count__seen, ne_Proposer__count__next_slot, ne_Proposer__count__promises, ne_Proposer__count__proposals, ne_Proposer__count__voters, ne_Proposer__seen_ballot, ne_Proposer__seen_state, ne_Proposer__seen__index, ne_Proposer__seen__count, ne_Proposer__seen__next_slot, ne_Proposer__seen__promises, ne_Proposer__seen__proposals, ne_Proposer__seen__voters, ne_Proposer__next_slot_ballot, ne_Proposer__next_slot_state, ne_Proposer__next_slot__index, ne_Proposer__next_slot__count, ne_Proposer__next_slot__seen, ne_Proposer__next_slot__promises, ne_Proposer__next_slot__proposals, ne_Proposer__next_slot__voters, ne_Proposer__promises_ballot, ne_Proposer__promises_state, ne_Proposer__promises__index, ne_Proposer__promises__count, ne_Proposer__promises__seen, ne_Proposer__promises__next_slot, ne_Proposer__promises__proposals, ne_Proposer__promises__voters, ne_Proposer__proposals_ballot, ne_Proposer__proposals_state, ne_Proposer__proposals__index, ne_Proposer__proposals__count, ne_Proposer__proposals__seen, ne_Proposer__proposals__next_slot, ne_Proposer__proposals__promises, ne_Proposer__proposals__voters, ne_Proposer__voters_ballot, ne_Proposer__voters_state, ne_Proposer__voters__index, ne_Proposer__voters__count, ne_Proposer__voters__seen, ne_Proposer__voters__next_slot, ne_Proposer__voters__promises, ne_Proposer__voters__proposals, ne_Proposer_saw_ballot, ne_Proposer_saw_state, ne_Proposer_saw__index, ne_Proposer_saw__count, ne_Proposer_saw__seen, ne_Proposer_saw__next_slot, ne_Proposer_saw__promises, ne_Proposer_saw__proposals, ne_Proposer_saw__voters, ne_Proposer_begin_ballot, ne_Proposer_begin_state, ne_Proposer_begin__index, ne_Proposer_begin__count, ne_Proposer_begin__seen, ne_Proposer_begin__next_slot, ne_Proposer_begin__promises, ne_Proposer_begin__proposals, ne_Proposer_begin__voters, ne_Proposer_hear_promise_ballot, ne_Proposer_hear_promise_state, ne_Proposer_hear_promise__index, ne_Proposer_hear_promise__count, ne_Proposer_hear_promise__seen, ne_Proposer_hear_promise__next_slot, ne_Proposer_hear_promise__promises, ne_Proposer_hear_promise__proposals, ne_Proposer_hear_promise__voters, ne_Proposer__open_accepted_ballot, ne_Proposer__open_accepted_state, ne_Proposer__open_accepted__index, ne_Proposer__open_accepted__count, ne_Proposer__open_accepted__seen, ne_Proposer__open_accepted__next_slot, ne_Proposer__open_accepted__promises, ne_Proposer__open_accepted__proposals, ne_Proposer__open_accepted__voters, ne_Proposer__promised_pairs_ballot, ne_Proposer__promised_pairs_state, ne_Proposer__promised_pairs__index, ne_Proposer__promised_pairs__count, ne_Proposer__promised_pairs__seen, ne_Proposer__promised_pairs__next_slot, ne_Proposer__promised_pairs__promises, ne_Proposer__promised_pairs__proposals, ne_Proposer__promised_pairs__voters, ne_Proposer_propose_ballot, ne_Proposer_propose_state, ne_Proposer_propose__index, ne_Proposer_propose__count, ne_Proposer_propose__seen, ne_Proposer_propose__next_slot, ne_Proposer_propose__promises, ne_Proposer_propose__proposals, ne_Proposer_propose__voters, ne_Proposer_hear_accepted_ballot, ne_Proposer_hear_accepted_state, ne_Proposer_hear_accepted__index, ne_Proposer_hear_accepted__count, ne_Proposer_hear_accepted__seen, ne_Proposer_hear_accepted__next_slot, ne_Proposer_hear_accepted__promises, ne_Proposer_hear_accepted__proposals, ne_Proposer_hear_accepted__voters, ne_Proposer_open_proposals_ballot, ne_Proposer_open_proposals_state, ne_Proposer_open_proposals__index, ne_Proposer_open_proposals__count, ne_Proposer_open_proposals__seen, ne_Proposer_open_proposals__next_slot, ne_Proposer_open_proposals__promises, ne_Proposer_open_proposals__proposals, ne_Proposer_open_proposals__voters, ne_Proposer_stop_ballot, ne_Proposer_stop_state, ne_Proposer_stop__index, ne_Proposer_stop__count, ne_Proposer_stop__seen, ne_Proposer_stop__next_slot, ne_Proposer_stop__promises, ne_Proposer_stop__proposals, ne_Proposer_stop__voters, ne_Proposer__forget_proposals_ballot, ne_Proposer__forget_proposals_state, ne_Proposer__forget_proposals__index, ne_Proposer__forget_proposals__count, ne_Proposer__forget_proposals__seen, ne_Proposer__forget_proposals__next_slot, ne_Proposer__forget_proposals__promises, ne_Proposer__forget_proposals__proposals, ne_Proposer__forget_proposals__voters, ne_Proposer_ballot_state_p, ne_Proposer_ballot__index_p, ne_Proposer_ballot__count_p, ne_Proposer_ballot__seen_p, ne_Proposer_ballot__next_slot_p, ne_Proposer_ballot__promises_p, ne_Proposer_ballot__proposals_p, ne_Proposer_ballot__voters_p, ne_Proposer_state_ballot_p, ne_Proposer_state__index_p, ne_Proposer_state__count_p, ne_Proposer_state__seen_p, ne_Proposer_state__next_slot_p, ne_Proposer_state__promises_p, ne_Proposer_state__proposals_p, ne_Proposer_state__voters_p, ne_Proposer__index_ballot_p, ne_Proposer__index_state_p, ne_Proposer__index__count_p, ne_Proposer__index__seen_p, ne_Proposer__index__next_slot_p, ne_Proposer__index__promises_p, ne_Proposer__index__proposals_p, ne_Proposer__index__voters_p, ne_Proposer__count_ballot_p, ne_Proposer__count_state_p, ne_Proposer__count__index_p, ne_Proposer__count__seen_p, ne_Proposer__count__next_slot_p, ne_Proposer__count__promises_p, ne_Proposer__count__proposals_p, ne_Proposer__count__voters_p, ne_Proposer__seen_ballot_p, ne_Proposer__seen_state_p, ne_Proposer__seen__index_p, ne_Proposer__seen__count_p, ne_Proposer__seen__next_slot_p, ne_Proposer__seen__promises_p, ne_Proposer__seen__proposals_p, ne_Proposer__seen__voters_p, ne_Proposer__next_slot_ballot_p, ne_Proposer__next_slot_state_p, ne_Proposer__next_slot__index_p, ne_Proposer__next_slot__count_p, ne_Proposer__next_slot__seen_p, ne_Proposer__next_slot__promises_p, ne_Proposer__next_slot__proposals_p, ne_Proposer__next_slot__voters_p, ne_Proposer__promises_ballot_p, ne_Proposer__promises_state_p, ne_Proposer__promises__index_p, ne_Proposer__promises__count_p, ne_Proposer__promises__seen_p, ne_Proposer__promises__next_slot_p, ne_Proposer__promises__proposals_p, ne_Proposer__promises__voters_p, ne_Proposer__proposals_ballot_p, ne_Proposer__proposals_state_p, ne_Proposer__proposals__index_p, ne_Proposer__proposals__count_p, ne_Proposer__proposals__seen_p, ne_Proposer__proposals__next_slot_p, ne_Proposer__proposals__promises_p, ne_Proposer__proposals__voters_p, ne_Proposer__voters_ballot_p, ne_Proposer__voters_state_p, ne_Proposer__voters__index_p, ne_Proposer__voters__count_p, ne_Proposer__voters__seen_p, ne_Proposer__voters__next_slot_p, ne_Proposer__voters__promises_p, ne_Proposer__voters__proposals_p, ne_Proposer_saw_ballot_p, ne_Proposer_saw_state_p, ne_Proposer_saw__index_p, ne_Proposer_saw__count_p, ne_Proposer_saw__seen_p, ne_Proposer_saw__next_slot_p, ne_Proposer_saw__promises_p, ne_Proposer_saw__proposals_p, ne_Proposer_saw__voters_p, ne_Proposer_begin_ballot_p, ne_Proposer_begin_state_p, ne_Proposer_begin__index_p, ne_Proposer_begin__count_p, ne_Proposer_begin__seen_p, ne_Proposer_begin__next_slot_p, ne_Proposer_begin__promises_p, ne_Proposer_begin__proposals_p, ne_Proposer_begin__voters_p, ne_Proposer_hear_promise_ballot_p, ne_Proposer_hear_promise_state_p, ne_Proposer_hear_promise__index_p, ne_Proposer_hear_promise__count_p, ne_Proposer_hear_promise__seen_p, ne_Proposer_hear_promise__next_slot_p, ne_Proposer_hear_promise__promises_p, ne_Proposer_hear_promise__proposals_p, ne_Proposer_hear_promise__voters_p, ne_Proposer__open_accepted_ballot_p, ne_Proposer__open_accepted_state_p, ne_Proposer__open_accepted__index_p, ne_Proposer__open_accepted__count_p, ne_Proposer__open_accepted__seen_p, ne_Proposer__open_accepted__next_slot_p, ne_Proposer__open_accepted__promises_p, ne_Proposer__open_accepted__proposals_p, ne_Proposer__open_accepted__voters_p, ne_Proposer__promised_pairs_ballot_p, ne_Proposer__promised_pairs_state_p, ne_Proposer__promised_pairs__index_p, ne_Proposer__promised_pairs__count_p, ne_Proposer__promised_pairs__seen_p, ne_Proposer__promised_pairs__next_slot_p, ne_Proposer__promised_pairs__promises_p, ne_Proposer__promised_pairs__proposals_p, ne_Proposer__promised_pairs__voters_p, ne_Proposer_propose_ballot_p, ne_Proposer_propose_state_p, ne_Proposer_propose__index_p, ne_Proposer_propose__count_p, ne_Proposer_propose__seen_p, ne_Proposer_propose__next_slot_p, ne_Proposer_propose__promises_p, ne_Proposer_propose__proposals_p, ne_Proposer_propose__voters_p, ne_Proposer_hear_accepted_ballot_p, ne_Proposer_hear_accepted_state_p, ne_Proposer_hear_accepted__index_p, ne_Proposer_hear_accepted__count_p, ne_Proposer_hear_accepted__seen_p, ne_Proposer_hear_accepted__next_slot_p, ne_Proposer_hear_accepted__promises_p, ne_Proposer_hear_accepted__proposals_p, ne_Proposer_hear_accepted__voters_p, ne_Proposer_open_proposals_ballot_p, ne_Proposer_open_proposals_state_p, ne_Proposer_open_proposals__index_p, ne_Proposer_open_proposals__count_p, ne_Proposer_open_proposals__seen_p, ne_Proposer_open_proposals__next_slot_p, ne_Proposer_open_proposals__promises_p, ne_Proposer_open_proposals__proposals_p, ne_Proposer_open_proposals__voters_p, ne_Proposer_stop_ballot_p, ne_Proposer_stop_state_p, ne_Proposer_stop__index_p, ne_Proposer_stop__count_p, ne_Proposer_stop__seen_p, ne_Proposer_stop__next_slot_p, ne_Proposer_stop__promises_p, ne_Proposer_stop__proposals_p, ne_Proposer_stop__voters_p, ne_Proposer__forget_proposals_ballot_p, ne_Proposer__forget_proposals_state_p, ne_Proposer__forget_proposals__index_p, ne_Proposer__forget_proposals__count_p, ne_Proposer__forget_proposals__seen_p, ne_Proposer__forget_proposals__next_slot_p, ne_Proposer__forget_proposals__promises_p, ne_Proposer__forget_proposals__proposals_p, ne_Proposer__forget_proposals__voters_p]

/-! max(d, default=x), d a dict whose keys are whole numbers -/
def rMaxDI : List V → List V → Hp → VK → Prop := fun xs zs H Q => ∃ (a : Addr) (kvs : List (Key × V)) (ks : List Int) (d : V), xs = [.ref a] ∧ zs = [d] ∧ Rd H a (.dK kvs) ∧ kvs.map (·.1) = ks.map Sum.inl ∧ (ks = [] → Q d H) ∧ ∀ m, m ∈ ks → (∀ y ∈ ks, y ≤ m) → Q (.int m) H
theorem cr_maxDI {X : Cx} (hcalm : X.calm = true) : CallRK X (.builtin "max") [Str.ofString "default"] rMaxDI := by
  intro pins s σ H xs zs us ws Q I r rz ⟨a, kvs, ks, d, ex, ez, hd, hks, q0, q1⟩
  subst ex; subst ez
  obtain rfl := Vals.ref1 r
  obtain ⟨w1, rfl, e1⟩ := vals1 rz
  obtain ⟨z, lo, vs, rel, dd⟩ := dk_rd I.hok hd
  obtain ⟨ep, hat⟩ := dd.dictAt
  have hkeys : vs.map (·.1) = ks.map Sum.inl := rel.keys.symm.trans hks
  have hl : vs.length = ks.length := by
    have e := congrArg List.length hkeys
    rw [List.length_map, List.length_map] at e
    exact e
  have hP : ∀ (i : Nat) (v : Value), (∃ (k : Key) (x : Value), vs[i]? = some (k, x) ∧ (mixKind X.prog X.w).is k v = true) → ∃ t, v = .int (ks.getD i 0) t := fun i v ⟨k, x, h1, h2⟩ => by
    have e3 : (vs.map (·.1))[i]? = some k := by rw [List.getElem?_map, h1]; rfl
    rw [hkeys, List.getElem?_map] at e3
    cases e4 : ks[i]? with
    | none => rw [e4] at e3; cases e3
    | some y =>
      rw [e4] at e3
      have e5 : Sum.inl y = k := Option.some.inj e3
      subst e5
      rcases keyIs_shape (show keyIs (Sum.inl y) v = true from h2) with ⟨i', t, ek, ev⟩ | ⟨z, t, ek, ev⟩
      · cases ek
        rw [List.getD_eq_getElem?_getD, e4]
        exact ⟨t, ev⟩
      · cases ek
  have hlt : a < s.heap.objs.size := hat.lt_size
  show wpAny _ _ (call (.builtin "max") [.ref a] [(Str.ofString "default", w1)]) _ _ _
  refine PySem.call_max_walkD (wpAny_pyIter_dict lo hat ?_)
  refine ⟨s.heap.objs.size, [s.heap.objs.size, a], [s.heap.objs.size], (fun a b => b = a), vs.length, _, _, s.heap, fun i j => decide (ks.getD i 0 > ks.getD j 0), rfl, (Walks.dictKeys (A := X.A.in1) (I.ok.hd hcalm) _ a (Nat.ne_of_lt hlt) vs ep).toS, ⟨⟨_, Heap.get?_push_size _ rfl, rfl, rfl⟩, hat.push _⟩, fun b hb => ?_, fun b o e hb => absurd (Heap.lt_size e) ((List.mem_singleton.mp hb) ▸ Nat.lt_irrefl _), fun b o e => Heap.get?_push_of_some _ e, fun hz s' m => ?_, fun hp => ⟨fun i j vi vj s Q E _ => CmpOf.ints_gt (fun i => ks.getD i 0) hP i j vi vj s Q E, fun v s' hv m => ?_⟩⟩
  · show b < (s.heap.push _).objs.size
    rw [Heap.size_push]
    rcases List.mem_cons.mp hb with z | z
    · rw [z]; exact Nat.lt_succ_self _
    · rw [List.mem_singleton.mp z]; exact Nat.lt_succ_of_lt hlt
  · obtain ⟨h', tk, rfl, hk'⟩ := PySem.W.moved_old rfl rfl m
    exact ⟨d, H, I.kept hk', e1, q0 (List.eq_nil_of_length_eq_zero (by omega))⟩
  · obtain ⟨h', tk, rfl, hk'⟩ := PySem.W.moved_old rfl rfl m
    obtain ⟨t, rfl⟩ := hP _ _ hv
    obtain ⟨m1', m2'⟩ := argBest_gt (fun i => ks.getD i 0) (vs.length - 1)
    have m1 : argBest (fun i j => decide (ks.getD i 0 > ks.getD j 0)) (vs.length - 1) ≤ vs.length - 1 := m1'
    have m2 : ∀ j, j ≤ vs.length - 1 → ks.getD j 0 ≤ ks.getD (argBest (fun i j => decide (ks.getD i 0 > ks.getD j 0)) (vs.length - 1)) 0 := m2'
    refine ⟨.int _, H, I.kept hk', ⟨t, rfl⟩, q1 _ (PySem.getD_mem (by omega)) fun y hy => ?_⟩
    obtain ⟨j, hj, e⟩ := List.mem_iff_getElem.mp hy
    have z := m2 j (by omega)
    have e3 : ks.getD j 0 = y := by rw [List.getD_eq_getElem?_getD, List.getElem?_eq_getElem hj, ← e]; rfl
    rw [e3] at z
    exact z
/-! the proposer: its plain fields, its promises, its open proposals -/
structure PF where
  b : Int
  st : Str
  ix : Int
  ct : Int
  sn : Int
  nx : Int
abbrev PVal := List Key
abbrev PRow := Int × Int × PVal
abbrev PEnt := Int × PVal × List Int
def pfl (f : PF) (dP dO dV : Addr) : List (Str × V) := fl_Proposer (.int f.b) (.str f.st) (.int f.ix) (.int f.ct) (.int f.sn) (.int f.nx) (.ref dP) (.ref dO) (.ref dV)
/-- a tuple that stands for good -/
def StT (K : PySem.W.Frag) (H : Hp) (t : Addr) (xs : List V) : Prop := H t = some (.tup xs) ∨ SqT K (fun _ => none) t xs
def PVA (K : PySem.W.Frag) (H : Hp) (x : V) (d : PVal) : Prop := ∃ t, x = .ref t ∧ StT K H t (d.map kV)
def RowIs (K : PySem.W.Frag) (H : Hp) (x : V) (r : PRow) : Prop := ∃ t v, x = .ref t ∧ StT K H t [.int r.1, .int r.2.1, v] ∧ PVA K H v r.2.2
def RowsIs (K : PySem.W.Frag) (H : Hp) : List V → List PRow → Prop
  | [], [] => True
  | x :: xs, r :: rs => RowIs K H x r ∧ RowsIs K H xs rs
  | _, _ => False
def PsAt (K : PySem.W.Frag) (H : Hp) : List (Key × V) → List (Int × List PRow) → Prop
  | [], [] => True
  | (k, v) :: kvs, (i, rs) :: ps => k = Sum.inl i ∧ (∃ t xs, v = .ref t ∧ StT K H t xs ∧ RowsIs K H xs rs) ∧ PsAt K H kvs ps
  | _, _ => False
def OpAt (K : PySem.W.Frag) (H : Hp) : List (Key × V) → List PEnt → Prop
  | [], [] => True
  | (k, v) :: kvs, e :: es => k = Sum.inl e.1 ∧ PVA K H v e.2.1 ∧ OpAt K H kvs es
  | _, _ => False
def voK (is : List Int) : List (Key × V) := is.map fun i => (Sum.inl i, V.bl true)
def VoAt (H : Hp) : List (Key × V) → List Addr → List PEnt → Prop
  | [], [], [] => True
  | (k, v) :: kvs, d :: ds, e :: es => k = Sum.inl e.1 ∧ v = .ref d ∧ H d = some (.dK (voK e.2.2)) ∧ VoAt H kvs ds es
  | _, _, _ => False
structure PW (C : Addr) (K : PySem.W.Frag) (H : Hp) (p : Addr) (f : PF) (ps : List (Int × List PRow)) (es : List PEnt) (dP dO dV : Addr) (dvs : List Addr) : Prop where
  ob : ∃ dx, H p = some (.ins C dx (pfl f dP dO dV))
  hP : ∃ kP, H dP = some (.dK kP) ∧ PsAt K H kP ps
  hO : ∃ kO, H dO = some (.dK kO) ∧ OpAt K H kO es
  hV : ∃ kV, H dV = some (.dK kV) ∧ VoAt H kV dvs es
  nd : (dP :: dO :: dV :: dvs).Nodup
def Pr (C : Addr) (K : PySem.W.Frag) (H : Hp) (p : Addr) (f : PF) (ps : List (Int × List PRow)) (es : List PEnt) : Prop := ∃ dP dO dV dvs, PW C K H p f ps es dP dO dV dvs
/-- all but these stand as they stood -/
def Fr (L : List Addr) (H H' : Hp) : Prop := ∀ x o, H x = some o → x ∉ L → H' x = some o
theorem Fr.refl (L : List Addr) (H : Hp) : Fr L H H := fun _ _ h _ => h
theorem Fr.trans {L : List Addr} {H H' H2 : Hp} (h : Fr L H H') (g : Fr L H' H2) : Fr L H H2 := fun x o e n => g x o (h x o e n) n
theorem Fr.of_same {L : List Addr} {H H' : Hp} (h : Same H H') : Fr L H H' := fun x o e _ => h x o e
theorem Fr.up {L : List Addr} {H H' : Hp} {a : Addr} {o : HO} (h : Fr L H H') (ha : a ∈ L) : Fr L H (upd H' a o) := fun x u e n => by
  rw [upd_ne (fun z => n (by rw [z]; exact ha))]
  exact h x u e n
def intK (kv : Key × V) : Bool := match kv.1 with | .inl _ => true | _ => false
/-- what the proposer owns: instances, dicts of numbers -/
def isPr : HO → Bool
  | .ins .. => true
  | .dK kvs => kvs.all intK
  | _ => false
def FP (H H' : Hp) : Prop := ∀ x o, H x = some o → isPr o = false → H' x = some o
theorem FP.refl (H : Hp) : FP H H := fun _ _ h _ => h
theorem FP.trans {G H J : Hp} (a : FP G H) (b : FP H J) : FP G J := fun x o h n => b x o (a x o h n) n
theorem FP.same {H J : Hp} (a : Same H J) : FP H J := fun x o h _ => a x o h
theorem FP.up {H : Hp} {a : Addr} {o u : HO} (h : H a = some o) (i : isPr o = true) : FP H (upd H a u) := fun x w hx n => by
  by_cases e : x = a
  · subst e
    rw [h] at hx
    cases hx
    rw [i] at n
    cases n
  · rw [upd_ne e]
    exact hx
theorem FP.fr {H H' : Hp} {p C dx : Addr} {fs : List (Str × V)} (ob : H p = some (.ins C dx fs)) (k : Fr [p] H H') : FP H H' := fun x o hx n => k x o hx fun z => by
  rw [List.mem_singleton] at z
  rw [z, ob] at hx
  cases hx
  cases n
/-- the tuples stand -/
def TK (H H' : Hp) : Prop := ∀ t xs, H t = some (.tup xs) → H' t = some (.tup xs)
theorem FP.tk {H H' : Hp} (f : FP H H') : TK H H' := fun t xs h => f t _ h rfl
theorem TK.same {H H' : Hp} (s : Same H H') : TK H H' := fun t xs h => s t _ h
theorem TK.trans {G H J : Hp} (a : TK G H) (b : TK H J) : TK G J := fun t xs h => b t xs (a t xs h)
section
variable {K : PySem.W.Frag} {H H' : Hp}
theorem StT.tk {t : Addr} {xs : List V} (k : TK H H') (h : StT K H t xs) : StT K H' t xs := h.elim (fun e => .inl (k _ _ e)) .inr
theorem StT.seq {t : Addr} {xs : List V} (h : StT K H t xs) : SqT K H t xs := h.elim sqt fun e => e.elim (fun z => z.elim (fun q => by cases q) fun ⟨_, q⟩ => by cases q) .inr
theorem PVA.tk {x : V} {d : PVal} (k : TK H H') (h : PVA K H x d) : PVA K H' x d := let ⟨t, e, q⟩ := h; ⟨t, e, q.tk k⟩
theorem RowIs.tk {x : V} {r : PRow} (k : TK H H') (h : RowIs K H x r) : RowIs K H' x r := let ⟨t, v, e, q, g⟩ := h; ⟨t, v, e, q.tk k, g.tk k⟩
theorem rows_tk (k : TK H H') : ∀ {xs : List V} {rs : List PRow}, RowsIs K H xs rs → RowsIs K H' xs rs
  | [], [], _ => trivial
  | _ :: _, _ :: _, ⟨a, b⟩ => ⟨a.tk k, rows_tk k b⟩
theorem ps_tk (k : TK H H') : ∀ {kvs : List (Key × V)} {ps : List (Int × List PRow)}, PsAt K H kvs ps → PsAt K H' kvs ps
  | [], [], _ => trivial
  | (_, _) :: _, (_, _) :: _, ⟨a, ⟨t, xs, e, q, g⟩, c⟩ => ⟨a, ⟨t, xs, e, q.tk k, rows_tk k g⟩, ps_tk k c⟩
theorem op_tk (k : TK H H') : ∀ {kvs : List (Key × V)} {es : List PEnt}, OpAt K H kvs es → OpAt K H' kvs es
  | [], [], _ => trivial
  | (_, _) :: _, _ :: _, ⟨a, b, c⟩ => ⟨a, b.tk k, op_tk k c⟩
theorem vo_fr : ∀ {kvs : List (Key × V)} {ds : List Addr} {es : List PEnt}, (∀ d ∈ ds, ∀ o, H d = some o → H' d = some o) → VoAt H kvs ds es → VoAt H' kvs ds es
  | [], [], [], _, _ => trivial
  | (_, _) :: _, d :: _, _ :: _, k, ⟨a, b, c, r⟩ => ⟨a, b, k d List.mem_cons_self _ c, vo_fr (fun x hx => k x (List.mem_cons_of_mem _ hx)) r⟩
theorem vo_there : ∀ {kvs : List (Key × V)} {ds : List Addr} {es : List PEnt}, VoAt H kvs ds es → ∀ d ∈ ds, ∃ is, H d = some (.dK (voK is))
  | [], [], [], _, _, h => by cases h
  | (_, _) :: _, d :: _, e :: _, ⟨_, _, c, r⟩, x, hx => by
    rcases List.mem_cons.mp hx with z | z
    · rw [z]
      exact ⟨_, c⟩
    · exact vo_there r x z
theorem ps_int : ∀ {kvs : List (Key × V)} {ps : List (Int × List PRow)}, PsAt K H kvs ps → kvs.all intK = true
  | [], [], _ => rfl
  | (_, _) :: _, (_, _) :: _, ⟨a, _, c⟩ => by rw [List.all_cons, ps_int c, a]; rfl
theorem op_int : ∀ {kvs : List (Key × V)} {es : List PEnt}, OpAt K H kvs es → kvs.all intK = true
  | [], [], _ => rfl
  | (_, _) :: _, _ :: _, ⟨a, _, c⟩ => by rw [List.all_cons, op_int c, a]; rfl
theorem vo_int : ∀ {kvs : List (Key × V)} {ds : List Addr} {es : List PEnt}, VoAt H kvs ds es → kvs.all intK = true
  | [], [], [], _ => rfl
  | (_, _) :: _, _ :: _, _ :: _, ⟨a, _, _, c⟩ => by rw [List.all_cons, vo_int c, a]; rfl
theorem voK_int (is : List Int) : (voK is).all intK = true := by
  rw [List.all_eq_true]
  intro kv h
  obtain ⟨i, _, rfl⟩ := List.mem_map.mp h
  rfl
theorem op_len : ∀ {kvs : List (Key × V)} {es : List PEnt}, OpAt K H kvs es → kvs.length = es.length
  | [], [], _ => rfl
  | (_, _) :: _, _ :: _, ⟨_, _, c⟩ => congrArg (· + 1) (op_len c)
theorem ps_len : ∀ {kvs : List (Key × V)} {ps : List (Int × List PRow)}, PsAt K H kvs ps → kvs.length = ps.length
  | [], [], _ => rfl
  | (_, _) :: _, (_, _) :: _, ⟨_, _, c⟩ => congrArg (· + 1) (ps_len c)
theorem vo_len : ∀ {kvs : List (Key × V)} {ds : List Addr} {es : List PEnt}, VoAt H kvs ds es → kvs.length = es.length ∧ ds.length = es.length
  | [], [], [], _ => ⟨rfl, rfl⟩
  | (_, _) :: _, _ :: _, _ :: _, ⟨_, _, _, c⟩ => ⟨congrArg (· + 1) (vo_len c).1, congrArg (· + 1) (vo_len c).2⟩
variable {C p dP dO dV : Addr} {dvs : List Addr} {f : PF} {ps : List (Int × List PRow)} {es : List PEnt}
/-- all the proposer's things stand, but itself -/
theorem PW.set (h : PW C K H p f ps es dP dO dV dvs) {g : PF} (k : Fr [p] H H') (e : ∃ dx, H' p = some (.ins C dx (pfl g dP dO dV))) : PW C K H' p g ps es dP dO dV dvs := by
  obtain ⟨⟨dx, ob⟩, ⟨kP, eP, aP⟩, ⟨kO, eO, aO⟩, ⟨kV, eV, aV⟩, nd⟩ := h
  have up : ∀ (x : Addr) (kvs : List (Key × V)), H x = some (.dK kvs) → H' x = some (.dK kvs) := fun x kvs q => k x _ q fun z => by
    rw [List.mem_singleton] at z
    rw [z, ob] at q
    cases q
  have tk : TK H H' := fun t xs q => k t _ q fun z => by
    rw [List.mem_singleton] at z
    rw [z, ob] at q
    cases q
  refine ⟨e, ⟨kP, up _ _ eP, ps_tk tk aP⟩, ⟨kO, up _ _ eO, op_tk tk aO⟩, ⟨kV, up _ _ eV, vo_fr (fun d hd o q => ?_) aV⟩, nd⟩
  obtain ⟨is, q2⟩ := vo_there aV d hd
  rw [q2] at q
  cases q
  exact up _ _ q2
theorem PW.same (h : PW C K H p f ps es dP dO dV dvs) (s : Same H H') : PW C K H' p f ps es dP dO dV dvs := h.set (Fr.of_same s) (let ⟨dx, e⟩ := h.ob; ⟨dx, s _ _ e⟩)
theorem Pr.same (h : Pr C K H p f ps es) (s : Same H H') : Pr C K H' p f ps es := let ⟨a, b, c, d, e⟩ := h; ⟨a, b, c, d, e.same s⟩
/-- no open proposals any more -/
theorem PW.clear (h : PW C K H p f ps es dP dO dV dvs) {g : PF} {eO eV : Addr} (k : Fr [p] H H') (fO : H eO = none) (fV : H eV = none) (n : eO ≠ eV) (hO : H' eO = some (.dK [])) (hV : H' eV = some (.dK [])) (e : ∃ dx, H' p = some (.ins C dx (pfl g dP eO eV))) :
    PW C K H' p g ps [] dP eO eV [] := by
  obtain ⟨⟨dx, ob⟩, ⟨kP, eP, aP⟩, _, _, nd⟩ := h
  have tk : TK H H' := fun t xs q => k t _ q fun z => by
    rw [List.mem_singleton] at z
    rw [z, ob] at q
    cases q
  refine ⟨e, ⟨kP, k _ _ eP fun z => ?_, ps_tk tk aP⟩, ⟨[], hO, trivial⟩, ⟨[], hV, trivial⟩, ?_⟩
  · rw [List.mem_singleton] at z
    rw [z, ob] at eP
    cases eP
  · have n1 : dP ≠ eO := ne_of_none eP fO
    have n2 : dP ≠ eV := ne_of_none eP fV
    simp [n1, n2, n]
end
def nextB (above index count : Int) : Int := if above - above % count + index ≤ above then above - above % count + index + count else above - above % count + index
def sp_majority : Sp := fun vs H Q _ => ∃ (n : Int), vs = [.int n] ∧ Q (.int (n / 2 + 1)) H
def sp_next : Sp := fun vs H Q _ => ∃ (a i n : Int), vs = [.int a, .int i, .int n] ∧ 0 < n ∧ Q (.int (nextB a i n)) H
def sp_init (C : Addr) (K : PySem.W.Frag) : Sp := fun vs H Q _ => ∃ (p dx : Addr) (i n : Int), vs = [.ref p, .int i, .int n] ∧ H p = some (.ins C dx []) ∧
  ∀ H', Pr C K H' p ⟨0, "idle", i, n, 0, 0⟩ [] [] → Fr [p] H H' → Q .non H'
def sp_forget (C : Addr) : Sp := fun vs H Q _ => ∃ (p dx : Addr) (v0 v1 v2 v3 v4 v5 v6 v7 v8 : V), vs = [.ref p] ∧ H p = some (.ins C dx (fl_Proposer v0 v1 v2 v3 v4 v5 v6 v7 v8)) ∧
  ∀ (dO dV : Addr) (H' : Hp), Fr [p] H H' → H dO = none → H dV = none → dO ≠ dV → H' dO = some (.dK []) → H' dV = some (.dK []) → H' p = some (.ins C dx (fl_Proposer v0 v1 v2 v3 v4 v5 v6 (.ref dO) (.ref dV))) → Q .non H'
def sp_stop (C : Addr) : Sp := fun vs H Q _ => ∃ (p dx : Addr) (v0 v1 v2 v3 v4 v5 v6 v7 v8 : V), vs = [.ref p] ∧ H p = some (.ins C dx (fl_Proposer v0 v1 v2 v3 v4 v5 v6 v7 v8)) ∧
  ∀ (dO dV : Addr) (H' : Hp), Fr [p] H H' → H dO = none → H dV = none → dO ≠ dV → H' dO = some (.dK []) → H' dV = some (.dK []) → H' p = some (.ins C dx (fl_Proposer v0 (.str "idle") v2 v3 v4 v5 v6 (.ref dO) (.ref dV))) → Q .non H'
def mxI (a b : Int) : Int := if b > a then b else a
def PF.sawF (f : PF) (x : Int) : PF := { f with sn := mxI f.sn x }
def sp_saw (C : Addr) (K : PySem.W.Frag) : Sp := fun vs H Q _ => ∃ (p : Addr) (f : PF) (ps : List (Int × List PRow)) (es : List PEnt) (x : Int), vs = [.ref p, .int x] ∧ Pr C K H p f ps es ∧
  ((x ≤ f.b ∨ f.st = "idle") → ∀ H', FP H H' → Pr C K H' p (f.sawF x) ps es → Q (.bl false) H') ∧
  (¬ (x ≤ f.b ∨ f.st = "idle") → ∀ H', FP H H' → Pr C K H' p { f.sawF x with st := "idle" } ps [] → Q (.bl true) H')
def sp_begin (C : Addr) (K : PySem.W.Frag) : Sp := fun vs H Q _ => ∃ (p : Addr) (f : PF) (ps : List (Int × List PRow)) (es : List PEnt) (x : Int), vs = [.ref p, .int x] ∧ Pr C K H p f ps es ∧ 0 < f.ct ∧
  ∀ H', FP H H' → Pr C K H' p { f with b := nextB (mxI f.sn f.b) f.ix f.ct, st := "preparing", nx := x } [] [] → Q (.int (nextB (mxI f.sn f.b) f.ix f.ct)) H'
/-- a new open proposal -/
def sp_propose (C : Addr) (K : PySem.W.Frag) : Sp := fun vs H Q _ => ∃ (p : Addr) (f : PF) (ps : List (Int × List PRow)) (es : List PEnt) (x : V) (d : PVal) (dP dO dV : Addr) (dvs : List Addr), vs = [.ref p, x] ∧ PVA K H x d ∧ PW C K H p f ps es dP dO dV dvs ∧ es.length ≤ 10000 ∧ (∀ e ∈ es, e.1 < f.nx) ∧
  (f.st ≠ "leading" → Q (.int (-1)) H) ∧ (f.st = "leading" → ∀ (d2 : Addr) (H' : Hp), H d2 = none → Fr [p, dO, dV] H H' → PW C K H' p { f with nx := f.nx + 1 } ps (es ++ [(f.nx, d, [])]) dP dO dV (dvs ++ [d2]) → Q (.int f.nx) H')
theorem PW.fp {C : Addr} {K : PySem.W.Frag} {H H' : Hp} {p dP dO dV : Addr} {dvs : List Addr} {f : PF} {ps : List (Int × List PRow)} {es : List PEnt} (h : PW C K H p f ps es dP dO dV dvs) (k : Fr (p :: dP :: dO :: dV :: dvs) H H') : FP H H' := by
  obtain ⟨⟨dx, ob⟩, ⟨kP, eP, aP⟩, ⟨kO, eO, aO⟩, ⟨kV, eV, aV⟩, nd⟩ := h
  intro x o hx ni
  refine k x o hx fun z => ?_
  have no : ∀ kvs : List (Key × V), o = .dK kvs → kvs.all intK = true → False := fun kvs e h => by
    rw [e] at ni
    rw [show isPr (.dK kvs) = kvs.all intK from rfl, h] at ni
    cases ni
  simp only [List.mem_cons] at z
  rcases z with z | z | z | z | z
  · rw [z, ob] at hx
    cases hx
    cases ni
  · rw [z, eP] at hx
    exact no kP (Option.some.inj hx).symm (ps_int aP)
  · rw [z, eO] at hx
    exact no kO (Option.some.inj hx).symm (op_int aO)
  · rw [z, eV] at hx
    exact no kV (Option.some.inj hx).symm (vo_int aV)
  · obtain ⟨is, e⟩ := vo_there aV x z
    rw [e] at hx
    exact no _ (Option.some.inj hx).symm (voK_int is)
theorem Fr.mono {L M : List Addr} {H H' : Hp} (k : Fr L H H') (h : ∀ x ∈ L, x ∈ M) : Fr M H H' := fun x o e n => k x o e fun z => n (h x z)
def eKeys (es : List PEnt) : List Key := es.map fun e => Sum.inl e.1
theorem op_keys {K : PySem.W.Frag} {H : Hp} : ∀ {kvs : List (Key × V)} {es : List PEnt}, OpAt K H kvs es → kvs.map (·.1) = eKeys es
  | [], [], _ => rfl
  | (_, _) :: _, _ :: _, ⟨a, _, c⟩ => by rw [List.map_cons, op_keys c, a]; rfl
theorem vo_keys {H : Hp} : ∀ {kvs : List (Key × V)} {ds : List Addr} {es : List PEnt}, VoAt H kvs ds es → kvs.map (·.1) = eKeys es
  | [], [], [], _ => rfl
  | (_, _) :: _, _ :: _, _ :: _, ⟨a, _, _, c⟩ => by rw [List.map_cons, vo_keys c, a]; rfl
theorem put_new {kvs : List (Key × V)} {es : List PEnt} (h : kvs.map (·.1) = eKeys es) {s : Int} {v : V} (n : ∀ e ∈ es, e.1 < s) : putK kvs (.inl s) v = kvs ++ [(.inl s, v)] := by
  refine if_neg fun z => ?_
  obtain ⟨kv, hm, e⟩ := List.any_eq_true.mp z
  have h1 : kv.1 ∈ eKeys es := by rw [← h]; exact List.mem_map.mpr ⟨kv, hm, rfl⟩
  obtain ⟨e', h2, h3⟩ := List.mem_map.mp h1
  have h4 := n e' h2
  rw [← h3] at e
  have h5 := Sum.inl.inj (of_decide_eq_true e)
  omega
theorem op_app {K : PySem.W.Frag} {H : Hp} {v : V} {e : PEnt} (hv : PVA K H v e.2.1) : ∀ {kvs : List (Key × V)} {es : List PEnt}, OpAt K H kvs es → OpAt K H (kvs ++ [(.inl e.1, v)]) (es ++ [e])
  | [], [], _ => ⟨rfl, hv, trivial⟩
  | (_, _) :: _, _ :: _, ⟨a, b, c⟩ => ⟨a, b, op_app hv c⟩
theorem vo_app {H : Hp} {d : Addr} {e : PEnt} (hd : H d = some (.dK (voK e.2.2))) : ∀ {kvs : List (Key × V)} {ds : List Addr} {es : List PEnt}, VoAt H kvs ds es → VoAt H (kvs ++ [(.inl e.1, .ref d)]) (ds ++ [d]) (es ++ [e])
  | [], [], [], _ => ⟨rfl, rfl, hd, trivial⟩
  | (_, _) :: _, _ :: _, _ :: _, ⟨a, b, b2, c⟩ => ⟨a, b, b2, vo_app hd c⟩
section
variable {P : Program} {w : World} {K : PySem.W.Frag} {mg : Str → Option Value} {base : Heap}
theorem ok_majority (T : TX K mg) : FnOk P w K mg base CX0 1 T.a_majority T.d_majority ["count"] sp_majority := by
  refine T.F_majority.ok sc_majority (fun vs H Q E h => ?_) (fun cdv A outer s H vs Q E hr h => ?_)
  · obtain ⟨n, rfl, _⟩ := h
    rfl
  · obtain ⟨n, rfl, q⟩ := h
    refine ⟨_, (pss_one (ps_ret (pe_op op_add (pe_op op_fdiv (pv 0) pe_int) pe_int))), ?_⟩
    exact ⟨_, rfl, _, _, rfl, rfl, ⟨by decide, by decide⟩, _, _, rfl, rfl, q⟩
theorem ok_next_ballot (T : TX K mg) : FnOk P w K mg base CX0 1 T.a_next_ballot T.d_next_ballot ["above", "index", "count"] sp_next := by
  refine T.F_next_ballot.ok sc_next_ballot (fun vs H Q E h => ?_) (fun cdv A outer s H vs Q E hr h => ?_)
  · obtain ⟨a, i, n, rfl, _⟩ := h
    rfl
  · obtain ⟨a, i, n, rfl, hn, q⟩ := h
    refine ⟨_, (pss_cons (ps_set (i := 3) sc_next_ballot.nd rfl (Or.inl rfl) (pe_op op_add (pe_op op_sub (pv 0) (pe_op op_mod (pv 0) (pv 2))) (pv 1)))
      (pss_cons (ps_if (pt_cmpR op_le (pv 3) (pv 0) (nomark _)) (pss_one (ps_aug (i := 3) sc_next_ballot.nd rfl (Or.inl rfl) (pv 2) ip_add)) pss_nil)
      (pss_one (ps_ret (pv 3))))), ?_⟩
    refine ⟨_, rfl, _, rfl, _, rfl, _, _, rfl, rfl, hn, _, _, rfl, rfl, _, rfl, _, _, rfl, rfl, ?_⟩
    refine ⟨_, rfl, _, rfl, _, _, rfl, rfl, _, rfl, ifd (fun hc => ?_) (fun hc => ?_)⟩
    · refine ⟨_, rfl, _, rfl, _, _, rfl, rfl, _, rfl, ?_⟩
      unfold nextB at q
      rw [if_pos hc] at q
      exact q
    · refine ⟨_, rfl, ?_⟩
      unfold nextB at q
      rw [if_neg hc] at q
      exact q
theorem ok_Proposer__forget_proposals (T : TX K mg) : FnOk P w K mg base CX0 1 T.a_Proposer__forget_proposals T.d_Proposer__forget_proposals ["self"] (sp_forget T.a_Proposer) := by
  refine T.F_Proposer__forget_proposals.ok sc_Proposer__forget_proposals (fun vs H Q E h => ?_) (fun cdv A outer s H vs Q E hr h => ?_)
  · obtain ⟨p, dx, v0, v1, v2, v3, v4, v5, v6, v7, v8, rfl, _⟩ := h
    rfl
  · obtain ⟨p, dx, v0, v1, v2, v3, v4, v5, v6, v7, v8, rfl, ob, q⟩ := h
    refine ⟨_, (pss_cons (ps_fld (pv 0) pe_dnewK rfl)
      (pss_one (ps_fld (pv 0) pe_dnewK rfl))), ?_⟩
    refine fun dO hO => ⟨_, rfl, p, T.a_Proposer, dx, _, rfl, by rw [upd_ne (ne_of_none ob hO)]; exact ob, T.K_Proposer, T.na_Proposer__proposals, (by show 9 < 1000; decide), ?_⟩
    rw [pf_Proposer__proposals]
    have n1 : dO ≠ p := (ne_of_none ob hO).symm
    refine fun dV hV => ⟨_, rfl, p, T.a_Proposer, dx, _, rfl, by rw [upd_ne (fun z => by rw [z, upd_same] at hV; cases hV), upd_same], T.K_Proposer, T.na_Proposer__voters, (by show 9 < 1000; decide), ?_⟩
    rw [pf_Proposer__voters]
    have n2 : dV ≠ p := fun z => by rw [z, upd_same] at hV; cases hV
    have n3 : dO ≠ dV := fun z => by rw [← z, upd_ne n1, upd_same] at hV; cases hV
    have fV : H dV = none := by rw [upd_ne n2, upd_ne n3.symm] at hV; exact hV
    refine q dO dV _ (fun x o hx n => ?_) hO fV n3 ?_ ?_ upd_same
    · have n4 : x ≠ p := by simpa using n
      rw [upd_ne n4, upd_ne (ne_of_none hx fV), upd_ne n4, upd_ne (ne_of_none hx hO)]
      exact hx
    · rw [upd_ne n1, upd_ne n3, upd_ne n1, upd_same]
    · rw [upd_ne n2, upd_same]
theorem ok_Proposer_stop (T : TX K mg) : FnOk P w K mg base CX0 2 T.a_Proposer_stop T.d_Proposer_stop ["self"] (sp_stop T.a_Proposer) := by
  refine T.F_Proposer_stop.ok sc_Proposer_stop (fun vs H Q E h => ?_) (fun cdv A outer s H vs Q E hr h => ?_)
  · obtain ⟨p, dx, v0, v1, v2, v3, v4, v5, v6, v7, v8, rfl, _⟩ := h
    rfl
  · obtain ⟨p, dx, v0, v1, v2, v3, v4, v5, v6, v7, v8, rfl, ob, q⟩ := h
    refine ⟨_, (pss_cons (ps_fld (pv 0) (pe_glob (v := .str "idle") (by rfl) T.c_IDLE ⟨_, rfl⟩) rfl)
      (pss_one (ps_expr (pe_meth0 (pv 0) T.K_Proposer T.m_Proposer__forget_proposals (ok_Proposer__forget_proposals T) (hr.mono (by decide)) T.b_Proposer__forget_proposals .nil pass0)))), ?_⟩
    refine ⟨_, rfl, p, T.a_Proposer, dx, _, rfl, ob, T.K_Proposer, T.na_Proposer_state, (by show 9 < 1000; decide), ?_⟩
    rw [pf_Proposer_state]
    refine ⟨_, rfl, p, dx, _, rfl, upd_same, fl_Proposer_no__forget_proposals, p, dx, _, _, _, _, _, _, _, _, _, rfl, upd_same, fun dO dV H' k fO fV n eO eV e => ?_⟩
    have gO : H dO = none := by
      by_cases z : dO = p
      · rw [z, upd_same] at fO; cases fO
      · rwa [upd_ne z] at fO
    have gV : H dV = none := by
      by_cases z : dV = p
      · rw [z, upd_same] at fV; cases fV
      · rwa [upd_ne z] at fV
    exact q dO dV H' (((Fr.refl [p] H).up (by simp)).trans k) gO gV n eO eV e
theorem ok_Proposer_saw (T : TX K mg) : FnOk P w K mg base CX0 3 T.a_Proposer_saw T.d_Proposer_saw ["self", "ballot"] (sp_saw T.a_Proposer K) := by
  refine T.F_Proposer_saw.ok sc_Proposer_saw (fun vs H Q E h => ?_) (fun cdv A outer s H vs Q E hr h => ?_)
  · obtain ⟨p, f, ps, es, x, rfl, _⟩ := h
    rfl
  · obtain ⟨p, f, ps, es, x, rfl, ⟨dP, dO, dV, dvs, h⟩, q1, q2⟩ := h
    refine ⟨_, (pss_cons (ps_fld (pv 0) (pe_callB (call_max2 rfl) (by rfl) T.n_max (by decide +kernel) (pa_cons (pe_fld (pv 0) rfl) (pa_cons (pv 1) pa_nil))) rfl)
      (pss_cons (ps_if (PW.pt (pw_or (pt_cmpR op_le (pv 1) (pe_fld (pv 0) rfl) (nomark _)) (pw_or1 (pt_cmpR op_eq (pe_fld (pv 0) rfl) (pe_glob (v := .str "idle") (by rfl) T.c_IDLE ⟨_, rfl⟩) (nomark _))))) (pss_one (ps_ret pe_bl)) pss_nil)
      (pss_cons (ps_expr (pe_meth0 (pv 0) T.K_Proposer T.m_Proposer_stop (ok_Proposer_stop T) (hr.mono (by decide)) T.b_Proposer_stop .nil pass0))
      (pss_one (ps_ret pe_bl))))), ?_⟩
    obtain ⟨dx, ob⟩ := h.ob
    unfold pfl at ob
    refine ⟨_, rfl, p, _, dx, _, _, rfl, ob, T.K_Proposer, T.na_Proposer__seen, fl_Proposer__seen, _, rfl, _, _, rfl, ?_⟩
    refine ⟨_, rfl, p, T.a_Proposer, dx, _, rfl, ob, T.K_Proposer, T.na_Proposer__seen, (by show 9 < 1000; decide), ?_⟩
    rw [pf_Proposer__seen]
    have ob2 : (upd H p (.ins T.a_Proposer dx (fl_Proposer (.int f.b) (.str f.st) (.int f.ix) (.int f.ct) (.int (mxI f.sn x)) (.int f.nx) (.ref dP) (.ref dO) (.ref dV)))) p = some (.ins T.a_Proposer dx (fl_Proposer (.int f.b) (.str f.st) (.int f.ix) (.int f.ct) (.int (mxI f.sn x)) (.int f.nx) (.ref dP) (.ref dO) (.ref dV))) := upd_same
    have fp := FP.up (u := .ins T.a_Proposer dx (fl_Proposer (.int f.b) (.str f.st) (.int f.ix) (.int f.ct) (.int (mxI f.sn x)) (.int f.nx) (.ref dP) (.ref dO) (.ref dV))) ob rfl
    have h2 := h.set (g := f.sawF x) ((Fr.refl [p] H).up (List.mem_singleton.mpr rfl)) ⟨dx, ob2⟩
    change tSeq _ _ _ _ (upd H p (.ins T.a_Proposer dx (fl_Proposer (.int f.b) (.str f.st) (.int f.ix) (.int f.ct) (.int (mxI f.sn x)) (.int f.nx) (.ref dP) (.ref dO) (.ref dV))))
    generalize upd H p (.ins T.a_Proposer dx (fl_Proposer (.int f.b) (.str f.st) (.int f.ix) (.int f.ct) (.int (mxI f.sn x)) (.int f.nx) (.ref dP) (.ref dO) (.ref dV))) = G at ob2 fp h2
    refine ⟨_, rfl, _, rfl, p, _, dx, _, _, rfl, ob2, T.K_Proposer, T.na_Proposer_ballot, fl_Proposer_ballot, _, _, rfl, rfl, _, rfl, ?_⟩
    refine ifd (fun hc => ifbt rfl (q1 (.inl hc) G fp ⟨_, _, _, _, h2⟩)) fun hc => ?_
    refine ⟨_, rfl, p, _, dx, _, _, rfl, ob2, T.K_Proposer, T.na_Proposer_state, fl_Proposer_state, ?_⟩
    refine ⟨rfl, _, rfl, ifd (fun hi => q1 (.inr (V.str.inj hi)) G fp ⟨_, _, _, _, h2⟩) fun hi => ?_⟩
    refine ⟨_, rfl, p, dx, _, rfl, ob2, fl_Proposer_no_stop, p, dx, _, _, _, _, _, _, _, _, _, rfl, ob2, fun eO eV H' k fO fV n hO hV e => ?_⟩
    exact q2 (fun z => z.elim hc fun z => hi (congrArg V.str z)) H' (fp.trans (FP.fr ob2 k)) ⟨_, _, _, _, h2.clear k fO fV n hO hV ⟨dx, e⟩⟩
theorem ok_Proposer_begin (T : TX K mg) : FnOk P w K mg base CX0 2 T.a_Proposer_begin T.d_Proposer_begin ["self", "first"] (sp_begin T.a_Proposer K) := by
  refine T.F_Proposer_begin.ok sc_Proposer_begin (fun vs H Q E h => ?_) (fun cdv A outer s H vs Q E hr h => ?_)
  · obtain ⟨p, f, ps, es, x, rfl, _⟩ := h
    rfl
  · obtain ⟨p, f, ps, es, x, rfl, ⟨dP, dO, dV, dvs, h⟩, hc, q⟩ := h
    refine ⟨_, (pss_cons (ps_fld (pv 0) (pe_call (ok_next_ballot T) (hr.mono (by decide)) (by rfl) T.g_next_ballot T.F_next_ballot.kp T.b_next_ballot .nil pass0 (pa_cons (pe_callB (call_max2 rfl) (by rfl) T.n_max (by decide +kernel) (pa_cons (pe_fld (pv 0) rfl) (pa_cons (pe_fld (pv 0) rfl) pa_nil))) (pa_cons (pe_fld (pv 0) rfl) (pa_cons (pe_fld (pv 0) rfl) pa_nil)))) rfl)
      (pss_cons (ps_fld (pv 0) (pe_glob (v := .str "preparing") (by rfl) T.c_PREPARING ⟨_, rfl⟩) rfl)
      (pss_cons (ps_fld (pv 0) (pv 1) rfl)
      (pss_cons (ps_fld (pv 0) pe_dnewK rfl)
      (pss_cons (ps_expr (pe_meth0 (pv 0) T.K_Proposer T.m_Proposer__forget_proposals (ok_Proposer__forget_proposals T) (hr.mono (by decide)) T.b_Proposer__forget_proposals .nil pass0))
      (pss_one (ps_ret (pe_fld (pv 0) rfl)))))))), ?_⟩
    obtain ⟨dx, ob⟩ := h.ob
    unfold pfl at ob
    refine ⟨_, rfl, p, _, dx, _, _, rfl, ob, T.K_Proposer, T.na_Proposer__seen, fl_Proposer__seen, _, rfl, p, _, dx, _, _, rfl, ob, T.K_Proposer, T.na_Proposer_ballot, fl_Proposer_ballot, _, _, rfl, ?_⟩
    refine ⟨_, rfl, p, _, dx, _, _, rfl, ob, T.K_Proposer, T.na_Proposer__index, fl_Proposer__index, _, rfl, p, _, dx, _, _, rfl, ob, T.K_Proposer, T.na_Proposer__count, fl_Proposer__count, _, _, _, rfl, hc, ?_⟩
    refine ⟨_, rfl, p, T.a_Proposer, dx, _, rfl, ob, T.K_Proposer, T.na_Proposer_ballot, (by show 9 < 1000; decide), ?_⟩
    rw [pf_Proposer_ballot]
    refine ⟨_, rfl, p, T.a_Proposer, dx, _, rfl, upd_same, T.K_Proposer, T.na_Proposer_state, (by show 9 < 1000; decide), ?_⟩
    rw [pf_Proposer_state]
    refine ⟨_, rfl, _, rfl, p, T.a_Proposer, dx, _, rfl, upd_same, T.K_Proposer, T.na_Proposer__next_slot, (by show 9 < 1000; decide), ?_⟩
    rw [pf_Proposer__next_slot]
    rw [upd_upd, upd_upd]
    refine fun dP2 hP2 => ⟨_, rfl, p, T.a_Proposer, dx, _, rfl, by rw [upd_ne (fun z => by rw [← z, upd_same] at hP2; cases hP2), upd_same], T.K_Proposer, T.na_Proposer__promises, (by show 9 < 1000; decide), ?_⟩
    rw [pf_Proposer__promises]
    have n1 : dP2 ≠ p := fun z => by rw [← z, upd_same] at hP2; cases hP2
    have fP : H dP2 = none := by rw [upd_ne n1] at hP2; exact hP2
    refine ⟨_, rfl, p, dx, _, rfl, upd_same, fl_Proposer_no__forget_proposals, p, dx, _, _, _, _, _, _, _, _, _, rfl, upd_same, fun eO eV H' k fO fV n hO hV e => ?_⟩
    refine ⟨_, rfl, p, _, dx, _, _, rfl, e, T.K_Proposer, T.na_Proposer_ballot, fl_Proposer_ballot, ?_⟩
    refine q H' (fun x o hx ni => ?_) ⟨dP2, eO, eV, [], ⟨dx, e⟩, ⟨[], k _ _ (by rw [upd_ne n1, upd_same]) (by simpa using n1), trivial⟩, ⟨[], hO, trivial⟩, ⟨[], hV, trivial⟩, ?_⟩
    · have n2 : x ≠ p := fun z => by rw [z, ob] at hx; cases hx; cases ni
      exact k _ _ (by rw [upd_ne n2, upd_ne (ne_of_none hx fP), upd_ne n2]; exact hx) (by simpa using n2)
    · have n3 : dP2 ≠ eO := ne_of_none (H := upd (upd (upd H p _) dP2 (.dK [])) p _) (by rw [upd_ne n1, upd_same]) fO
      have n4 : dP2 ≠ eV := ne_of_none (H := upd (upd (upd H p _) dP2 (.dK [])) p _) (by rw [upd_ne n1, upd_same]) fV
      simp [n3, n4, n]
theorem ok_Proposer_propose (T : TX K mg) : FnOk P w K mg base CX0 1 T.a_Proposer_propose T.d_Proposer_propose ["self", "value"] (sp_propose T.a_Proposer K) := by
  refine T.F_Proposer_propose.ok sc_Proposer_propose (fun vs H Q E h => ?_) (fun cdv A outer s H vs Q E hr h => ?_)
  · obtain ⟨p, f, ps, es, x, d, _, _, _, _, rfl, _⟩ := h
    rfl
  · obtain ⟨p, f, ps, es, x, d, dP, dO, dV, dvs, rfl, hx, h, hl, hn, q1, q2⟩ := h
    refine ⟨_, (pss_cons (ps_if (pt_cmpR op_ne (pe_fld (pv 0) rfl) (pe_glob (v := .str "leading") (by rfl) T.c_LEADING ⟨_, rfl⟩) (nomark _)) (pss_one (ps_ret (pe_un un_neg pe_int))) pss_nil)
      (pss_cons (ps_set (i := 2) sc_Proposer_propose.nd rfl (Or.inl rfl) (pe_fld (pv 0) rfl))
      (pss_cons (ps_fldaug (pv 0) pe_int in_add)
      (pss_cons (ps_dput (hu_of hr) (pe_fld (pv 0) rfl) (pv 2) (pv 1) rfl)
      (pss_cons (ps_dput (hu_of hr) (pe_fld (pv 0) rfl) (pv 2) pe_dnewK rfl)
      (pss_one (ps_ret (pv 2)))))))), ?_⟩
    obtain ⟨⟨dx, ob⟩, ⟨kP, eP, aP⟩, ⟨kO, eO, aO⟩, ⟨kV, eV, aV⟩, nd⟩ := h
    unfold pfl at ob
    refine ⟨_, rfl, p, _, dx, _, _, rfl, ob, T.K_Proposer, T.na_Proposer_state, fl_Proposer_state, rfl, _, rfl, ifb2 (fun hc => ⟨_, rfl, q1 fun z => by rw [z] at hc; revert hc; decide +kernel⟩) (fun hc => ?_)⟩
    have hst : f.st = "leading" := Decidable.byContradiction fun z => by
      rw [decide_eq_false (fun y => z (V.str.inj y))] at hc
      cases hc
    refine ⟨_, rfl, p, _, dx, _, _, rfl, ob, T.K_Proposer, T.na_Proposer__next_slot, fl_Proposer__next_slot, ?_⟩
    refine ⟨_, rfl, p, T.a_Proposer, dx, _, _, rfl, ob, T.K_Proposer, T.na_Proposer__next_slot, fl_Proposer__next_slot, _, _, rfl, rfl, dx, _, ob, (by show 9 < 1000; decide), ?_⟩
    rw [pf_Proposer__next_slot]
    have ndn : ∀ {x : Addr} {kvs : List (Key × V)}, H x = some (.dK kvs) → x ≠ p := fun e z => by rw [z, ob] at e; cases e
    have ob1 : (upd H p (.ins T.a_Proposer dx (fl_Proposer (.int f.b) (.str f.st) (.int f.ix) (.int f.ct) (.int f.sn) (.int (f.nx + 1)) (.ref dP) (.ref dO) (.ref dV)))) p = some (.ins T.a_Proposer dx (fl_Proposer (.int f.b) (.str f.st) (.int f.ix) (.int f.ct) (.int f.sn) (.int (f.nx + 1)) (.ref dP) (.ref dO) (.ref dV))) := upd_same
    have f1 : Fr [p] H (upd H p (.ins T.a_Proposer dx (fl_Proposer (.int f.b) (.str f.st) (.int f.ix) (.int f.ct) (.int f.sn) (.int (f.nx + 1)) (.ref dP) (.ref dO) (.ref dV)))) := (Fr.refl [p] H).up (by simp)
    change tSeq _ _ _ _ (upd H p (.ins T.a_Proposer dx (fl_Proposer (.int f.b) (.str f.st) (.int f.ix) (.int f.ct) (.int f.sn) (.int (f.nx + 1)) (.ref dP) (.ref dO) (.ref dV))))
    generalize upd H p (.ins T.a_Proposer dx (fl_Proposer (.int f.b) (.str f.st) (.int f.ix) (.int f.ct) (.int f.sn) (.int (f.nx + 1)) (.ref dP) (.ref dO) (.ref dV))) = G at ob1 f1
    have fp1 := FP.fr ob f1
    have eO1 := f1 _ _ eO (by simpa using ndn eO)
    have eP1 := f1 _ _ eP (by simpa using ndn eP)
    have eV1 := f1 _ _ eV (by simpa using ndn eV)
    have lO := op_len aO
    have lV := vo_len aV
    have nds : dP ≠ dO ∧ dP ≠ dV ∧ dO ≠ dV ∧ dP ∉ dvs ∧ dO ∉ dvs ∧ dV ∉ dvs ∧ dvs.Nodup := by
      simp only [List.nodup_cons, List.mem_cons, not_or] at nd
      exact ⟨nd.1.1, nd.1.2.1, nd.2.1.1, nd.1.2.2, nd.2.1.2, nd.2.2.1, nd.2.2.2⟩
    obtain ⟨nPO, nPV, nOV, mP, mO, mV, ndd⟩ := nds
    refine ⟨_, rfl, _, rfl, p, _, dx, _, _, rfl, ob1, T.K_Proposer, T.na_Proposer__proposals, fl_Proposer__proposals, _, rfl, dO, _, rfl, DPut.k (k := Sum.inl f.nx) eO1 (szl (by omega)), ?_⟩
    rw [put_new (op_keys aO) hn]
    refine fun d2 h2 => ⟨_, rfl, p, _, dx, _, _, rfl, by rw [upd_ne (ne_of_none (by rw [upd_ne (ndn eO).symm]; exact ob1) h2), upd_ne (ndn eO).symm]; exact ob1, T.K_Proposer, T.na_Proposer__voters, fl_Proposer__voters, _, rfl, dV, _, rfl, DPut.k (k := Sum.inl f.nx) (kvs := kV) (by rw [upd_ne (ne_of_none (by rw [upd_ne nOV.symm]; exact eV1) h2), upd_ne nOV.symm]; exact eV1) (szl (by omega)), ?_⟩
    rw [put_new (vo_keys aV) hn]
    have g2O : dO ≠ d2 := fun z => by rw [z, upd_same] at h2; cases h2
    have h2' : G d2 = none := by rw [upd_ne g2O.symm] at h2; exact h2
    have g2P : dP ≠ d2 := ne_of_none eP1 h2'
    have g2V : dV ≠ d2 := ne_of_none eV1 h2'
    have g2p : p ≠ d2 := ne_of_none ob1 h2'
    have tk2 : TK G (upd (upd (upd G dO (.dK (kO ++ [(Sum.inl f.nx, x)]))) d2 (.dK [])) dV (.dK (kV ++ [(Sum.inl f.nx, V.ref d2)]))) := fun t xs e => by
      rw [upd_ne (fun z => by rw [z, eV1] at e; cases e), upd_ne (ne_of_none e h2'), upd_ne (fun z => by rw [z, eO1] at e; cases e)]
      exact e
    have tkA := fp1.tk.trans tk2
    have f2 : H d2 = none := by
      cases e : H d2 with
      | none => rfl
      | some o =>
        by_cases z : d2 = p
        · exact absurd z.symm g2p
        · rw [f1 d2 o e (by simpa using z)] at h2'
          cases h2'
    refine ⟨_, rfl, q2 hst d2 _ f2 (fun y o hy ni => ?_) ⟨⟨dx, ?_⟩, ⟨kP, ?_, ps_tk tkA aP⟩, ⟨_, ?_, op_app (e := (f.nx, d, [])) (hx.tk tkA) (op_tk tkA aO)⟩, ⟨_, upd_same, vo_app (e := (f.nx, d, [])) ?_ (vo_fr (fun y hy o e => ?_) aV)⟩, ?_⟩⟩
    · simp only [List.mem_cons, List.not_mem_nil, or_false, not_or] at ni
      have hy1 := f1 y o hy (by simpa using ni.1)
      rw [upd_ne ni.2.2, upd_ne (ne_of_none hy1 h2'), upd_ne ni.2.1]
      exact hy1
    · rw [upd_ne (ndn eV).symm, upd_ne g2p, upd_ne (ndn eO).symm]
      exact ob1
    · rw [upd_ne nPV, upd_ne g2P, upd_ne nPO]
      exact eP1
    · rw [upd_ne nOV, upd_ne g2O, upd_same]
    · rw [upd_ne g2V.symm, upd_same]
      rfl
    · obtain ⟨is, e3⟩ := vo_there aV y hy
      have e4 := f1 _ _ e3 (by simpa using ndn e3)
      have n1 : y ≠ dV := fun z => mV (by rw [← z]; exact hy)
      have n2 : y ≠ dO := fun z => mO (by rw [← z]; exact hy)
      rw [e3] at e
      cases e
      rw [upd_ne n1, upd_ne (ne_of_none e4 h2'), upd_ne n2]
      exact e4
    · have m2 : d2 ∉ dvs := fun z => by
        obtain ⟨is, e3⟩ := vo_there aV d2 z
        have e4 := f1 _ _ e3 (by simpa using ndn e3)
        rw [h2'] at e4
        cases e4
      rw [← List.cons_append, ← List.cons_append, ← List.cons_append]
      refine List.nodup_append.mpr ⟨nd, by simp, fun y hy z hz e => ?_⟩
      rw [List.mem_singleton] at hz
      rw [hz] at e
      subst e
      simp only [List.mem_cons] at hy
      rcases hy with z | z | z | z
      · exact g2P z.symm
      · exact g2O z.symm
      · exact g2V z.symm
      · exact m2 z
end
/-! the pairs that were promised, slot by slot -/
abbrev PGrp := Int × List (Int × PVal)
def PairIs (K : PySem.W.Frag) (H : Hp) (x : V) (r : Int × PVal) : Prop := ∃ t w, x = .ref t ∧ StT K H t [.int r.1, w] ∧ PVA K H w r.2
def PairsIs (K : PySem.W.Frag) (H : Hp) : List V → List (Int × PVal) → Prop
  | [], [] => True
  | x :: xs, r :: rs => PairIs K H x r ∧ PairsIs K H xs rs
  | _, _ => False
def GAt (K : PySem.W.Frag) (H : Hp) : List (Key × V) → List Addr → List PGrp → Prop
  | [], [], [] => True
  | (k, v) :: kvs, l :: ls, g :: gs => k = Sum.inl g.1 ∧ v = .ref l ∧ (∃ xs, H l = some (.lst xs) ∧ PairsIs K H xs g.2) ∧ GAt K H kvs ls gs
  | _, _, _ => False
def addG : List PGrp → Int → Int × PVal → List PGrp
  | [], s, x => [(s, [x])]
  | g :: gs, s, x => if g.1 = s then (g.1, g.2 ++ [x]) :: gs else g :: addG gs s x
def grp (rows : List PRow) : List PGrp := rows.foldl (fun gs r => addG gs r.1 r.2) []
theorem grp_app (rows : List PRow) (r : PRow) : grp (rows ++ [r]) = addG (grp rows) r.1 r.2 := by
  unfold grp
  rw [List.foldl_append]
  rfl
def GLe (gs : List PGrp) (n : Nat) : Prop := gs.length ≤ n ∧ ∀ g ∈ gs, g.2.length ≤ n
theorem addG_le : ∀ {gs : List PGrp} {n : Nat} {s : Int} {x : Int × PVal}, GLe gs n → GLe (addG gs s x) (n + 1)
  | [], n, s, x, _ => ⟨by simp [addG], fun g hg => by
    simp only [addG, List.mem_cons, List.not_mem_nil, or_false] at hg
    rw [hg]
    simp⟩
  | g :: gs, n, s, x, ⟨h1, h2⟩ => by
    unfold addG
    split
    · refine ⟨by simp only [List.length_cons] at h1 ⊢; omega, fun y hy => ?_⟩
      rcases List.mem_cons.mp hy with z | z
      · have := h2 g List.mem_cons_self
        rw [z]
        simp only [List.length_append, List.length_cons, List.length_nil]
        omega
      · have := h2 y (List.mem_cons_of_mem _ z)
        omega
    · cases n with
      | zero => simp at h1
      | succ n =>
        have t := addG_le (gs := gs) (n := n) (s := s) (x := x)
        have h3 : GLe gs (n + 1) := ⟨by simp only [List.length_cons] at h1; omega, fun y hy => h2 y (List.mem_cons_of_mem _ hy)⟩
        have h4 := addG_le (s := s) (x := x) h3
        have hl : ∀ gs : List PGrp, (addG gs s x).length ≤ gs.length + 1 := fun gs => by
          induction gs with
          | nil => simp [addG]
          | cons g gs ih =>
            unfold addG
            split
            · simp
            · simp only [List.length_cons]
              omega
        refine ⟨by have := hl gs; simp only [List.length_cons] at h1 ⊢; omega, fun y hy => ?_⟩
        rcases List.mem_cons.mp hy with z | z
        · have := h2 g List.mem_cons_self
          rw [z]
          omega
        · exact h4.2 y z
theorem grp_le (rows : List PRow) : GLe (grp rows) rows.length := by
  have go : ∀ (rows : List PRow) (gs : List PGrp) (n : Nat), GLe gs n → GLe (rows.foldl (fun gs r => addG gs r.1 r.2) gs) (n + rows.length) := fun rows => by
    induction rows with
    | nil => intro gs n h; exact h
    | cons r rows ih =>
      intro gs n h
      have := ih _ _ (addG_le (s := r.1) (x := r.2) h)
      rw [List.length_cons, show n + (rows.length + 1) = n + 1 + rows.length by omega]
      exact this
  have := go rows [] 0 ⟨Nat.le_refl _, fun _ h => by cases h⟩
  rwa [Nat.zero_add] at this
section
variable {K : PySem.W.Frag} {H H' : Hp}
theorem PairIs.tk {x : V} {r : Int × PVal} (k : TK H H') (h : PairIs K H x r) : PairIs K H' x r := let ⟨t, v, e, q, g⟩ := h; ⟨t, v, e, q.tk k, g.tk k⟩
theorem pairs_tk (k : TK H H') : ∀ {xs : List V} {rs : List (Int × PVal)}, PairsIs K H xs rs → PairsIs K H' xs rs
  | [], [], _ => trivial
  | _ :: _, _ :: _, ⟨a, b⟩ => ⟨a.tk k, pairs_tk k b⟩
theorem pairs_app {x : V} {r : Int × PVal} (h : PairIs K H x r) : ∀ {xs : List V} {rs : List (Int × PVal)}, PairsIs K H xs rs → PairsIs K H (xs ++ [x]) (rs ++ [r])
  | [], [], _ => ⟨h, trivial⟩
  | _ :: _, _ :: _, ⟨a, b⟩ => ⟨a, pairs_app h b⟩
theorem pairs_len : ∀ {xs : List V} {rs : List (Int × PVal)}, PairsIs K H xs rs → xs.length = rs.length
  | [], [], _ => rfl
  | _ :: _, _ :: _, ⟨_, b⟩ => congrArg (· + 1) (pairs_len b)
theorem g_tk (k : TK H H') : ∀ {kvs : List (Key × V)} {ls : List Addr} {gs : List PGrp}, (∀ l ∈ ls, ∀ o, H l = some o → H' l = some o) → GAt K H kvs ls gs → GAt K H' kvs ls gs
  | [], [], [], _, _ => trivial
  | (_, _) :: _, l :: _, _ :: _, n, ⟨a, b, ⟨xs, c, d⟩, r⟩ => ⟨a, b, ⟨xs, n l List.mem_cons_self _ c, pairs_tk k d⟩, g_tk k (fun x hx => n x (List.mem_cons_of_mem _ hx)) r⟩
theorem g_len : ∀ {kvs : List (Key × V)} {ls : List Addr} {gs : List PGrp}, GAt K H kvs ls gs → kvs.length = gs.length
  | [], [], [], _ => rfl
  | (_, _) :: _, _ :: _, _ :: _, ⟨_, _, _, r⟩ => congrArg (· + 1) (g_len r)
theorem g_there : ∀ {kvs : List (Key × V)} {ls : List Addr} {gs : List PGrp}, GAt K H kvs ls gs → ∀ l ∈ ls, ∃ xs, H l = some (.lst xs)
  | [], [], [], _, _, h => by cases h
  | (_, _) :: _, _ :: _, _ :: _, ⟨_, _, ⟨xs, c, _⟩, r⟩, x, hx => by
    rcases List.mem_cons.mp hx with z | z
    · rw [z]; exact ⟨xs, c⟩
    · exact g_there r x z
theorem g_some {s : Int} {v : V} : ∀ {kvs : List (Key × V)} {ls : List Addr} {gs : List PGrp}, GAt K H kvs ls gs → ls.Nodup → valV kvs (.inl s) = some v →
    ∃ l xs, v = .ref l ∧ l ∈ ls ∧ H l = some (.lst xs) ∧ (∃ g ∈ gs, xs.length = g.2.length) ∧ ∀ (G : Hp) (y : V) (pr : Int × PVal), TK H G → (∀ d ∈ ls, d ≠ l → ∀ o, H d = some o → G d = some o) → G l = some (.lst (xs ++ [y])) → PairIs K G y pr → GAt K G kvs ls (addG gs s pr)
  | [], [], [], _, _, h => by rw [valV_nil] at h; cases h
  | (k, w) :: kvs, l :: ls, g :: gs, ⟨a, b, ⟨xs, c, d⟩, r⟩, nd, h => by
    have nd2 := List.nodup_cons.mp nd
    by_cases e : g.1 = s
    · rw [valV_pos (show (k, w).1 = Sum.inl s by rw [← e]; exact a)] at h
      cases h
      refine ⟨l, xs, b, List.mem_cons_self, c, ⟨g, List.mem_cons_self, pairs_len d⟩, fun G y pr k2 k3 k4 k5 => ?_⟩
      unfold addG
      rw [if_pos e]
      exact ⟨a, b, ⟨_, k4, pairs_app k5 (pairs_tk k2 d)⟩, g_tk k2 (fun x hx o => k3 x (List.mem_cons_of_mem _ hx) (fun z => nd2.1 (by rw [← z]; exact hx)) o) r⟩
    · rw [valV_neg (show (k, w).1 ≠ Sum.inl s by show k ≠ _; rw [a]; exact fun z => e (Sum.inl.inj z))] at h
      obtain ⟨l', xs', h1, h2, h3, ⟨g', h4, h5⟩, h6⟩ := g_some r nd2.2 h
      refine ⟨l', xs', h1, List.mem_cons_of_mem _ h2, h3, ⟨g', List.mem_cons_of_mem _ h4, h5⟩, fun G y pr k2 k3 k4 k5 => ?_⟩
      unfold addG
      rw [if_neg e]
      have nl : l ≠ l' := fun z => nd2.1 (by rw [z]; exact h2)
      exact ⟨a, b, ⟨xs, k3 l List.mem_cons_self nl _ c, pairs_tk k2 d⟩, h6 G y pr k2 (fun x hx => k3 x (List.mem_cons_of_mem _ hx)) k4 k5⟩
theorem g_none {s : Int} {l' : Addr} {y : V} {pr : Int × PVal} (hl : H l' = some (.lst [y])) (hp : PairIs K H y pr) : ∀ {kvs : List (Key × V)} {ls : List Addr} {gs : List PGrp}, GAt K H kvs ls gs → valV kvs (.inl s) = none → GAt K H (kvs ++ [(.inl s, .ref l')]) (ls ++ [l']) (addG gs s pr)
  | [], [], [], _, _ => ⟨rfl, rfl, ⟨_, hl, hp, trivial⟩, trivial⟩
  | (k, w) :: kvs, l :: ls, g :: gs, ⟨a, b, c, r⟩, h => by
    have e : ¬ g.1 = s := fun e => by
      rw [valV_pos (show (k, w).1 = Sum.inl s by rw [← e]; exact a)] at h
      cases h
    rw [valV_neg (show (k, w).1 ≠ Sum.inl s by show k ≠ _; rw [a]; exact fun z => e (Sum.inl.inj z))] at h
    unfold addG
    rw [if_neg e]
    exact ⟨a, b, c, g_none hl hp r h⟩
end
theorem put_none {kvs : List (Key × V)} {k : Key} {v : V} (h : valV kvs k = none) : putK kvs k v = kvs ++ [(k, v)] := by
  refine if_neg fun z => ?_
  rw [valV_any, h] at z
  cases z
theorem ps_at {K : PySem.W.Frag} {H : Hp} : ∀ {kvs : List (Key × V)} {ps : List (Int × List PRow)} {i : Nat} {k : Key} {v : V}, PsAt K H kvs ps → kvs[i]? = some (k, v) → ∃ idx rs t xs, ps[i]? = some (idx, rs) ∧ k = Sum.inl idx ∧ v = .ref t ∧ StT K H t xs ∧ RowsIs K H xs rs
  | [], [], i, _, _, _, h => by simp at h
  | (_, _) :: _, (idx, rs) :: _, 0, k, v, ⟨a, ⟨t, xs, b, c, d⟩, _⟩, h => by
    simp only [List.getElem?_cons_zero, Option.some.injEq, Prod.mk.injEq] at h
    obtain ⟨rfl, rfl⟩ := h
    exact ⟨idx, rs, t, xs, rfl, a, b, c, d⟩
  | (_, _) :: _, (_, _) :: _, i + 1, k, v, ⟨_, _, r⟩, h => by
    obtain ⟨idx, rs, t, xs, h1, h2⟩ := ps_at (i := i) r (by simpa using h)
    exact ⟨idx, rs, t, xs, by simpa using h1, h2⟩
theorem rows_at {K : PySem.W.Frag} {H : Hp} : ∀ {xs : List V} {rs : List PRow} {i : Nat} {x : V}, RowsIs K H xs rs → xs[i]? = some x → ∃ r, rs[i]? = some r ∧ RowIs K H x r
  | [], [], i, _, _, h => by simp at h
  | _ :: _, r :: _, 0, x, ⟨a, _⟩, h => by
    simp only [List.getElem?_cons_zero, Option.some.injEq] at h
    subst h
    exact ⟨r, rfl, a⟩
  | _ :: _, _ :: _, i + 1, x, ⟨_, b⟩, h => by
    obtain ⟨r, h1, h2⟩ := rows_at (i := i) b (by simpa using h)
    exact ⟨r, by simpa using h1, h2⟩
theorem rows_len {K : PySem.W.Frag} {H : Hp} : ∀ {xs : List V} {rs : List PRow}, RowsIs K H xs rs → xs.length = rs.length
  | [], [], _ => rfl
  | _ :: _, _ :: _, ⟨_, b⟩ => congrArg (· + 1) (rows_len b)
theorem ps_keys {K : PySem.W.Frag} {H : Hp} : ∀ {kvs : List (Key × V)} {ps : List (Int × List PRow)}, PsAt K H kvs ps → kvs.map (·.1) = ps.map fun q => Sum.inl q.1
  | [], [], _ => rfl
  | (_, _) :: _, (_, _) :: _, ⟨a, _, c⟩ => by rw [List.map_cons, ps_keys c, a]; rfl
theorem val_ix : ∀ {kvs : List (Key × V)} {i : Nat} {k : Key} {v : V}, (kvs.map (·.1)).Nodup → kvs[i]? = some (k, v) → valV kvs k = some v := by
  intro kvs
  induction kvs with
  | nil => intro i k v _ h; simp at h
  | cons kv r ih =>
    intro i k v nd h
    cases i with
    | zero =>
      simp only [List.getElem?_cons_zero, Option.some.injEq] at h
      subst h
      exact valV_pos rfl
    | succ i =>
      simp only [List.getElem?_cons_succ] at h
      simp only [List.map_cons, List.nodup_cons] at nd
      obtain ⟨k0, v0⟩ := kv
      have hne : k0 ≠ k := fun z => nd.1 (by rw [z]; exact List.mem_map.mpr ⟨_, List.mem_of_getElem? h, rfl⟩)
      rw [valV_neg hne]
      exact ih nd.2 h
theorem nodup_inl {ns : List Int} (h : ns.Nodup) : (ns.map (Sum.inl : Int → Key)).Nodup := (List.Pairwise.map _ fun a b n z => n (Sum.inl.inj z)) h
theorem flat_le {ps : List (Int × List PRow)} {i : Nat} {q : Int × List PRow} (h : ps[i]? = some q) (j : Nat) : ((ps.take i).flatMap (·.2) ++ q.2.take j).length ≤ (ps.flatMap (·.2)).length := by
  obtain ⟨hi, e⟩ := List.getElem?_eq_some_iff.mp h
  have e2 : ps = ps.take i ++ q :: ps.drop (i + 1) := by
    rw [← e, List.getElem_cons_drop, List.take_append_drop]
  have e3 := congrArg (fun l => (l.flatMap (·.2)).length) e2
  simp only [List.flatMap_append, List.flatMap_cons, List.length_append] at e3
  rw [List.length_append, List.length_take]
  omega
/-- what stands of the pairs in the middle of the walk -/
def GMid (K : PySem.W.Frag) (HL G : Hp) (pd : Addr) (rows : List PRow) : Prop := ∃ kvs ls, G pd = some (.dK kvs) ∧ GAt K G kvs ls (grp rows) ∧ ls.Nodup ∧ (∀ l ∈ ls, HL l = none) ∧ Same HL G
def sp_pairs (C : Addr) (K : PySem.W.Frag) : Sp := fun vs H Q _ => ∃ (p : Addr) (f : PF) (ps : List (Int × List PRow)) (es : List PEnt) (dP dO dV : Addr) (dvs : List Addr), vs = [.ref p] ∧ PW C K H p f ps es dP dO dV dvs ∧ (ps.map (·.1)).Nodup ∧ (ps.flatMap (·.2)).length ≤ 1000 ∧
  ∀ (pd : Addr) (kvs : List (Key × V)) (ls : List Addr) (H' : Hp), H pd = none → Same H H' → H' pd = some (.dK kvs) → GAt K H' kvs ls (grp (ps.flatMap (·.2))) → Q (.ref pd) H'
section
variable {P : Program} {w : World} {K : PySem.W.Frag} {mg : Str → Option Value} {base : Heap}
theorem ok_Proposer__promised_pairs (T : TX K mg) : FnOk P w K mg base CX0 1 T.a_Proposer__promised_pairs T.d_Proposer__promised_pairs ["self"] (sp_pairs T.a_Proposer K) := by
  refine T.F_Proposer__promised_pairs.ok sc_Proposer__promised_pairs (fun vs H Q E h => ?_) (fun cdv A outer s H vs Q E hr h => ?_)
  · obtain ⟨p, f, ps, es, dP, dO, dV, dvs, rfl, _⟩ := h
    rfl
  · obtain ⟨p, f, ps, es, dP, dO, dV, dvs, rfl, h, ndp, hlen, q⟩ := h
    refine ⟨_, (pss_cons (ps_set (i := 1) sc_Proposer__promised_pairs.nd rfl (Or.inl rfl) pe_dnewK)
      (pss_cons (ps_lock (ps_for PassesOwn.never rfl (pi_keys (pe_fld (pv 0) rfl)) (pg_name (i := 2) sc_Proposer__promised_pairs.nd rfl (Or.inl rfl))
        (pss_one (ps_for PassesOwn.never rfl (pi_tup (pe_dget (hu_of hr) (pe_fld (pv 0) rfl) (pv 2) (fun _ _ => rfl))) (pg_tup (by rfl) (pgs_cons (pg_name (i := 3) sc_Proposer__promised_pairs.nd rfl (Or.inl rfl)) (pgs_cons (pg_name (i := 4) sc_Proposer__promised_pairs.nd rfl (Or.inl rfl)) (pgs_cons (pg_name (i := 5) sc_Proposer__promised_pairs.nd rfl (Or.inl rfl)) pgs_nil))))
          (pss_one (ps_expr (pe_bm PySem.F.plainAttrs_list PySem.F.slot_list_append PySem.F.type_list_append mt_append (pe_dsetd (pv 1) (pv 3) (pe_lst pa_nil) ⟨rfl, rfl, rfl, rfl⟩) (pa_cons (pe_tup (pa_cons (pv 4) (pa_cons (pv 5) pa_nil))) pa_nil))))))))
      (pss_one (ps_ret (pv 1))))), ?_⟩
    obtain ⟨⟨dx, ob⟩, ⟨kP, eP, aP⟩, _⟩ := h
    unfold pfl at ob
    refine fun pd hpd => ?_
    have npP : dP ≠ pd := ne_of_none eP hpd
    have npp : p ≠ pd := ne_of_none ob hpd
    have nPp : dP ≠ p := fun z => by rw [z, ob] at eP; cases eP
    have eP1 : (upd H pd (.dK [])) dP = some (.dK kP) := by rw [upd_ne npP]; exact eP
    refine ⟨dP, _, eP1, trivial, fun od => ⟨_, rfl, p, _, dx, _, _, rfl, by rw [upd_ne nPp.symm, upd_ne npp]; exact ob, T.K_Proposer, T.na_Proposer__promises, fl_Proposer__promises, dP, od, rfl, .inl ⟨kP, upd_same, ?_⟩⟩⟩
    have ndk : (kP.map (·.1)).Nodup := by
      have := nodup_inl ndp
      rw [ps_keys aP]
      rwa [List.map_map] at this
    generalize hHL : upd H dP (.frz od (.dK kP)) = HL
    have obL : HL p = some (.ins T.a_Proposer dx (fl_Proposer (.int f.b) (.str f.st) (.int f.ix) (.int f.ct) (.int f.sn) (.int f.nx) (.ref dP) (.ref dO) (.ref dV))) := by rw [← hHL, upd_ne nPp.symm]; exact ob
    have ePL : HL dP = some (.frz od (.dK kP)) := by rw [← hHL, upd_same]
    have pdL : HL pd = none := by rw [← hHL, upd_ne npP.symm]; exact hpd
    have tkL : TK H HL := fun t xs e => by
      rw [← hHL, upd_ne (fun z => by rw [z, eP] at e; cases e)]
      exact e
    have aPL := ps_tk tkL aP
    refine for_it walk_keys (fun i σ G => ∃ (x2 x3 x4 x5 : Option V), σ = [some (.ref p), some (.ref pd), x2, x3, x4, x5] ∧ GMid K HL G pd ((ps.take i).flatMap (·.2)))
      ⟨none, none, none, none, rfl, [], [], by rw [upd_ne npP.symm, upd_same], trivial, List.nodup_nil, (fun _ z => by cases z), fun x o e => ?_⟩ (fun i σ G _ h => by obtain ⟨_, _, _, _, _, _, _, _, _, _, _, sm⟩ := h; exact sm _ _ ePL) ?_ ?_
    · rw [← hHL] at e
      by_cases z : x = dP
      · rw [z, upd_same] at e ⊢
        exact e
      · rw [upd_ne z] at e ⊢
        rw [upd_ne (ne_of_none e hpd)]
        exact e
    · rintro i x σ G0 G hlt ⟨x2, x3, x4, x5, rfl, hG⟩ ⟨rfl, key, v, hkv, rfl⟩
      obtain ⟨idx, rs, t, xs, hpi, rfl, rfl, ht, hrs⟩ := ps_at aPL hkv
      have sm0 : Same HL G := by obtain ⟨_, _, _, _, _, _, sm⟩ := hG; exact sm
      have hval := val_ix ndk hkv
      refine ⟨_, rfl, p, _, dx, _, _, rfl, sm0 _ _ obL, T.K_Proposer, T.na_Proposer__promises, fl_Proposer__promises, _, rfl, dP, .ref t, rfl, by rw [← hval]; exact .inl ⟨kP, _, .inr ⟨od, sm0 _ _ ePL⟩, rfl, rfl⟩, t, rfl, ⟨_, (ht.tk (TK.same sm0)).seq⟩, ?_⟩
      refine for_tup (K := K) (a := t) (xs := xs) (fun j σ G => ∃ (x3 x4 x5 : Option V), σ = [some (.ref p), some (.ref pd), some (.int idx), x3, x4, x5] ∧ GMid K HL G pd ((ps.take i).flatMap (·.2) ++ rs.take j))
        ⟨x3, x4, x5, rfl, by rw [List.take_zero, List.append_nil]; exact hG⟩ (fun j σ G _ h => by obtain ⟨_, _, _, _, _, _, _, _, _, _, sm⟩ := h; exact (ht.tk (TK.same sm)).seq) ?_ ?_
      · rintro j x σ G hx ⟨x3, x4, x5, rfl, kvs, ls, e1, e2, e3, e4, e5⟩
        obtain ⟨r, hr1, hr2⟩ := rows_at hrs hx
        obtain ⟨t2, w, rfl, ht2, hw⟩ := hr2
        refine ⟨t2, _, rfl, (ht2.tk (TK.same e5)).seq, rfl, .int r.1, _, rfl, .int r.2.1, _, rfl, w, [], rfl, rfl, ?_⟩
        have hgl := grp_le ((ps.take i).flatMap (·.2) ++ rs.take j)
        have hle : ((ps.take i).flatMap (·.2) ++ rs.take j).length ≤ 1000 := Nat.le_trans (flat_le hpi j) hlen
        have lk := g_len e2
        have hstep : (ps.take i).flatMap (·.2) ++ rs.take (j + 1) = ((ps.take i).flatMap (·.2) ++ rs.take j) ++ [r] := by rw [take_more hr1, List.append_assoc]
        rw [hstep]
        have hcl : (grp ((ps.take i).flatMap (·.2) ++ rs.take j)).length ≤ 1000 := Nat.le_trans hgl.1 hle
        refine ⟨_, rfl, pd, rfl, .inl ⟨kvs, .inl e1⟩, _, rfl, Nat.zero_le _, fun l hl => ⟨kvs, .inl r.1, ?_, rfl, szl (by omega), fun v hv => ?_, fun hn => ?_⟩⟩
        · rw [upd_ne (ne_of_none e1 hl)]
          exact e1
        · obtain ⟨l2, ys, rfl, m1, m2, ⟨g, m3, m4⟩, m5⟩ := g_some e2 e3 hv
          have s1 := same_upd (o := .lst []) hl
          have hys := hgl.2 g m3
          have m2' := s1 _ _ m2
          refine ⟨.inl ⟨rfl, _, sql m2'⟩, _, rfl, _, rfl, (by show 2 ≤ sizeLine; decide), fun t3 ht3 => ⟨l2, ys, _, rfl, rfl, same_upd ht3 _ _ m2', szl (by omega), ?_⟩⟩
          have s2 := s1.trans (same_upd (o := .tup [.int r.2.1, w]) ht3)
          have nl2 : ∀ {x : Addr} {o : HO}, G x = some o → x ≠ l2 → (upd (upd (upd G l (.lst [])) t3 (.tup [.int r.2.1, w])) l2 (.lst (ys ++ [.ref t3]))) x = some o := fun h n => by
            rw [upd_ne n]
            exact s2 _ _ h
          have tk2 : TK G (upd (upd (upd G l (.lst [])) t3 (.tup [.int r.2.1, w])) l2 (.lst (ys ++ [.ref t3]))) := fun t xs h => nl2 h fun z => by rw [z, m2] at h; cases h
          have n3 : t3 ≠ l2 := fun z => by rw [z, m2'] at ht3; cases ht3
          refine ⟨_, _, _, rfl, kvs, ls, nl2 e1 (fun z => by rw [z, m2] at e1; cases e1), ?_, e3, e4, fun x o h => ?_⟩
          · rw [grp_app]
            refine m5 _ (.ref t3) r.2 tk2 (fun d hd n o h => nl2 h n) upd_same ⟨t3, w, rfl, .inl ?_, hw.tk ((TK.same e5).trans tk2)⟩
            rw [upd_ne n3, upd_same]
          · have n4 : x ≠ l2 := fun z => by rw [z, e4 l2 m1] at h; cases h
            exact nl2 (e5 _ _ h) n4
        · have s1 := same_upd (o := .lst []) hl
          have npl : pd ≠ l := ne_of_none e1 hl
          rw [put_none hn]
          refine ⟨.inl ⟨rfl, _, sql (by rw [upd_ne npl.symm, upd_same])⟩, _, rfl, _, rfl, (by show 2 ≤ sizeLine; decide), fun t3 ht3 => ⟨l, [], _, rfl, rfl, same_upd ht3 _ _ (by rw [upd_ne npl.symm, upd_same]), szl (by decide), ?_⟩⟩
          have npt : pd ≠ t3 := fun z => by rw [← z, upd_same] at ht3; cases ht3
          have nlt : l ≠ t3 := fun z => by rw [← z, upd_ne npl.symm, upd_same] at ht3; cases ht3
          have ft : G t3 = none := by rw [upd_ne npt.symm, upd_ne nlt.symm] at ht3; exact ht3
          have up : ∀ {x : Addr} {o : HO}, G x = some o → x ≠ pd → (upd (upd (upd (upd G l (.lst [])) pd (.dK (kvs ++ [(Sum.inl r.1, V.ref l)]))) t3 (.tup [.int r.2.1, w])) l (.lst ([] ++ [.ref t3]))) x = some o := fun h n => by
            rw [upd_ne (ne_of_none h hl), upd_ne (ne_of_none h ft), upd_ne n, upd_ne (ne_of_none h hl)]
            exact h
          have tk2 : TK G (upd (upd (upd (upd G l (.lst [])) pd (.dK (kvs ++ [(Sum.inl r.1, V.ref l)]))) t3 (.tup [.int r.2.1, w])) l (.lst ([] ++ [.ref t3]))) := fun t xs h => up h fun z => by rw [z, e1] at h; cases h
          refine ⟨_, _, _, rfl, kvs ++ [(Sum.inl r.1, V.ref l)], ls ++ [l], ?_, ?_, ?_, ?_, fun x o h => ?_⟩
          · rw [upd_ne npl, upd_ne npt, upd_same]
          · rw [grp_app]
            refine g_none upd_same ⟨t3, w, rfl, .inl ?_, hw.tk ((TK.same e5).trans tk2)⟩ (g_tk tk2 (fun d hd o h => up h fun z => ?_) e2) hn
            · rw [upd_ne nlt.symm, upd_same]
            · obtain ⟨ys, hy⟩ := g_there e2 d hd
              rw [z, e1] at hy
              cases hy
          · refine List.nodup_append.mpr ⟨e3, by simp, fun y hy z hz e => ?_⟩
            rw [List.mem_singleton] at hz
            obtain ⟨ys, hy⟩ := g_there e2 y hy
            rw [e, hz, hl] at hy
            cases hy
          · intro y hy
            rcases List.mem_append.mp hy with z | z
            · exact e4 y z
            · rw [List.mem_singleton] at z
              rw [z]
              exact e5.free hl
          · exact up (e5 _ _ h) fun z => by rw [z, pdL] at h; cases h
      · rintro σ G2 ⟨x3, x4, x5, rfl, hG2⟩
        refine ⟨_, _, _, _, rfl, ?_⟩
        rw [rows_len hrs, List.take_length] at hG2
        rw [take_more hpi, List.flatMap_append, List.flatMap_cons, List.flatMap_nil, List.append_nil]
        exact hG2
    · rintro σ G ⟨x2, x3, x4, x5, rfl, kvs, ls, e1, e2, e3, e4, e5⟩
      rw [show kP.length = ps.length from ps_len aP, List.take_length] at e2
      refine ⟨e5 _ _ ePL, ?_⟩
      have eG := e5 _ _ ePL
      have up : ∀ {x : Addr} {o : HO}, G x = some o → x ≠ dP → (upd G dP (.dK kP)) x = some o := fun h n => by rw [upd_ne n]; exact h
      refine ⟨_, rfl, q pd kvs ls _ hpd (unlock eP (by rw [hHL]; exact e5)) (up e1 npP.symm) (g_tk (fun t xs h => up h fun z => by rw [z, eG] at h; cases h) (fun d hd o h => up h fun z => ?_) e2)⟩
      obtain ⟨ys, hy⟩ := g_there e2 d hd
      rw [z, eG] at hy
      cases hy
end
/-! what is proposed -/
def nthg : PVal := [Sum.inr "nothing"]
def btr (s p : Int × PVal) : Int × PVal := if s.1 < p.1 then p else s
def bestO (ds : List (Int × PVal)) : Int × PVal := ds.foldl btr (-1, nthg)
theorem bestO_more {ds : List (Int × PVal)} {i : Nat} {p : Int × PVal} (h : ds[i]? = some p) : bestO (ds.take (i + 1)) = btr (bestO (ds.take i)) p := by
  unfold bestO
  rw [take_more h, List.foldl_append]
  rfl
def rowsOf (rows : List PRow) (s : Int) : List (Int × PVal) := (rows.filter fun r => decide (r.1 = s)).map (·.2)
def lookG : List PGrp → Int → List (Int × PVal)
  | [], _ => []
  | g :: gs, s => if g.1 = s then g.2 else lookG gs s
theorem look_add : ∀ (gs : List PGrp) (s s' : Int) (x : Int × PVal), lookG (addG gs s x) s' = if s = s' then lookG gs s ++ [x] else lookG gs s'
  | [], s, s', x => by
    unfold addG lookG
    by_cases h : s = s'
    · rw [if_pos h, if_pos h]; rfl
    · rw [if_neg h, if_neg h]; rfl
  | g :: gs, s, s', x => by
    unfold addG
    by_cases h : g.1 = s
    · rw [if_pos h]
      by_cases h2 : s = s'
      · rw [if_pos h2]
        show (if g.1 = s' then g.2 ++ [x] else _) = _
        rw [if_pos (h.trans h2)]
        show _ = (if g.1 = s then g.2 else _) ++ [x]
        rw [if_pos h]
      · rw [if_neg h2]
        show (if g.1 = s' then g.2 ++ [x] else _) = (if g.1 = s' then g.2 else _)
        rw [if_neg (fun z => h2 (h.symm.trans z)), if_neg (fun z => h2 (h.symm.trans z))]
    · rw [if_neg h]
      have ih := look_add gs s s' x
      show (if g.1 = s' then g.2 else lookG (addG gs s x) s') = if s = s' then (if g.1 = s then g.2 else lookG gs s) ++ [x] else (if g.1 = s' then g.2 else lookG gs s')
      rw [ih, if_neg h]
      by_cases h2 : s = s'
      · rw [if_neg (fun z => h (z.trans h2.symm)), if_pos h2, if_pos h2]
      · rw [if_neg h2, if_neg h2]
theorem look_grp (rows : List PRow) (s : Int) : lookG (grp rows) s = rowsOf rows s := by
  have go : ∀ (rows : List PRow) (gs : List PGrp), lookG (rows.foldl (fun gs r => addG gs r.1 r.2) gs) s = lookG gs s ++ rowsOf rows s := fun rows => by
    induction rows with
    | nil => intro gs; exact (List.append_nil _).symm
    | cons r rows ih =>
      intro gs
      rw [List.foldl_cons, ih, look_add]
      unfold rowsOf
      by_cases h : r.1 = s
      · rw [if_pos h, List.filter_cons_of_pos (by simp [h]), List.map_cons, h, List.append_assoc]
        rfl
      · rw [if_neg h, List.filter_cons_of_neg (by simp [h])]
  exact (go rows []).trans (List.nil_append _)
theorem key_add : ∀ (gs : List PGrp) (s s' : Int) (x : Int × PVal), s' ∈ (addG gs s x).map (·.1) ↔ s' = s ∨ s' ∈ gs.map (·.1)
  | [], s, s', x => by simp [addG]
  | g :: gs, s, s', x => by
    unfold addG
    by_cases h : g.1 = s
    · rw [if_pos h]
      simp only [List.map_cons, List.mem_cons]
      constructor
      · exact .inr
      · rintro (z | z)
        · exact .inl (z.trans h.symm)
        · exact z
    · rw [if_neg h]
      have ih := key_add gs s s' x
      simp only [List.map_cons, List.mem_cons]
      rw [ih]
      constructor
      · rintro (z | z | z)
        · exact .inr (.inl z)
        · exact .inl z
        · exact .inr (.inr z)
      · rintro (z | z | z)
        · exact .inr (.inl z)
        · exact .inl z
        · exact .inr (.inr z)
theorem key_grp (rows : List PRow) (s : Int) : s ∈ (grp rows).map (·.1) ↔ ∃ r ∈ rows, r.1 = s := by
  have go : ∀ (rows : List PRow) (gs : List PGrp), s ∈ (rows.foldl (fun gs r => addG gs r.1 r.2) gs).map (·.1) ↔ s ∈ gs.map (·.1) ∨ ∃ r ∈ rows, r.1 = s := fun rows => by
    induction rows with
    | nil => intro gs; simp
    | cons r rows ih =>
      intro gs
      rw [List.foldl_cons, ih, key_add]
      constructor
      · rintro ((z | z) | ⟨y, hy, e⟩)
        · exact .inr ⟨r, List.mem_cons_self, z.symm⟩
        · exact .inl z
        · exact .inr ⟨y, List.mem_cons_of_mem _ hy, e⟩
      · rintro (z | ⟨y, hy, e⟩)
        · exact .inl (.inr z)
        · rcases List.mem_cons.mp hy with q | q
          · exact .inl (.inl (by rw [← e, q]))
          · exact .inr ⟨y, q, e⟩
  exact (go rows []).trans (by simp)
def topR (rows : List PRow) : Int := rows.foldl (fun m r => if r.1 > m then r.1 else m) (-1)
theorem top_from : ∀ (rows : List PRow) (m : Int), m ≤ rows.foldl (fun m r => if r.1 > m then r.1 else m) m ∧ (∀ r ∈ rows, r.1 ≤ rows.foldl (fun m r => if r.1 > m then r.1 else m) m) ∧ (rows.foldl (fun m r => if r.1 > m then r.1 else m) m = m ∨ ∃ r ∈ rows, r.1 = rows.foldl (fun m r => if r.1 > m then r.1 else m) m)
  | [], m => ⟨Int.le_refl _, (fun _ h => by cases h), .inl rfl⟩
  | r :: rows, m => by
    obtain ⟨h1, h2, h3⟩ := top_from rows (if r.1 > m then r.1 else m)
    rw [List.foldl_cons]
    generalize rows.foldl (fun m r => if r.1 > m then r.1 else m) (if r.1 > m then r.1 else m) = t at h1 h2 h3
    have hm : m ≤ (if r.1 > m then r.1 else m) ∧ r.1 ≤ (if r.1 > m then r.1 else m) := by split <;> omega
    refine ⟨by omega, fun y hy => ?_, ?_⟩
    · rcases List.mem_cons.mp hy with z | z
      · rw [z]; omega
      · exact h2 y z
    · rcases h3 with z | ⟨y, hy, e⟩
      · by_cases hc : r.1 > m
        · rw [if_pos hc] at z
          exact .inr ⟨r, List.mem_cons_self, z.symm⟩
        · rw [if_neg hc] at z
          exact .inl z
      · exact .inr ⟨y, List.mem_cons_of_mem _ hy, e⟩
theorem top_is {rows : List PRow} (h0 : ∀ r ∈ rows, 0 ≤ r.1) {m : Int} (hm : ∃ r ∈ rows, r.1 = m) (hx : ∀ r ∈ rows, r.1 ≤ m) : topR rows = m := by
  obtain ⟨h1, h2, h3⟩ := top_from rows (-1)
  unfold topR
  generalize rows.foldl (fun m r => if r.1 > m then r.1 else m) (-1) = t at h1 h2 h3
  obtain ⟨r, hr, e⟩ := hm
  have a1 := h2 r hr
  rcases h3 with z | ⟨y, hy, e2⟩
  · have := h0 r hr
    omega
  · have := hx y hy
    omega
section
variable {K : PySem.W.Frag} {H : Hp}
theorem g_keys : ∀ {kvs : List (Key × V)} {ls : List Addr} {gs : List PGrp}, GAt K H kvs ls gs → kvs.map (·.1) = (gs.map (·.1)).map Sum.inl
  | [], [], [], _ => rfl
  | (_, _) :: _, _ :: _, _ :: _, ⟨a, _, _, r⟩ => by rw [List.map_cons, g_keys r, a]; rfl
theorem g_look {s : Int} : ∀ {kvs : List (Key × V)} {ls : List Addr} {gs : List PGrp}, GAt K H kvs ls gs → (∀ v, valV kvs (.inl s) = some v → ∃ l xs, v = .ref l ∧ H l = some (.lst xs) ∧ PairsIs K H xs (lookG gs s)) ∧ (valV kvs (.inl s) = none → lookG gs s = [])
  | [], [], [], _ => ⟨(fun v h => by rw [valV_nil] at h; cases h), fun _ => rfl⟩
  | (k, w) :: kvs, l :: ls, g :: gs, ⟨a, b, ⟨xs, c, d⟩, r⟩ => by
    by_cases e : g.1 = s
    · rw [valV_pos (show (k, w).1 = Sum.inl s by rw [← e]; exact a), show lookG (g :: gs) s = g.2 from if_pos e]
      exact ⟨fun v h => ⟨l, xs, by cases h; exact b, c, d⟩, fun h => by cases h⟩
    · rw [valV_neg (show (k, w).1 ≠ Sum.inl s by show k ≠ _; rw [a]; exact fun z => e (Sum.inl.inj z)), show lookG (g :: gs) s = lookG gs s from if_neg e]
      exact g_look r
theorem pairs_at : ∀ {xs : List V} {rs : List (Int × PVal)} {i : Nat} {x : V}, PairsIs K H xs rs → xs[i]? = some x → ∃ r, rs[i]? = some r ∧ PairIs K H x r
  | [], [], i, _, _, h => by simp at h
  | _ :: _, r :: _, 0, x, ⟨a, _⟩, h => by
    simp only [List.getElem?_cons_zero, Option.some.injEq] at h
    subst h
    exact ⟨r, rfl, a⟩
  | _ :: _, _ :: _, i + 1, x, ⟨_, b⟩, h => by
    obtain ⟨r, h1, h2⟩ := pairs_at (i := i) b (by simpa using h)
    exact ⟨r, by simpa using h1, h2⟩
end
def sp_value (K : PySem.W.Frag) : Sp := fun vs H Q _ => ∃ (a : Addr) (xs : List V) (ds : List (Int × PVal)), vs = [.ref a] ∧ SqL K H a xs ∧ PairsIs K H xs ds ∧ ∀ v, PVA K H v (bestO ds).2 → Q v H
/-- the slots from s on, as they are opened -/
def opened (rows : List PRow) (s : Int) (n : Nat) : List PEnt := (List.range n).map fun (i : Nat) => (s + (i : Int), (bestO (rowsOf rows (s + (i : Int)))).2, [])
theorem opened_more (rows : List PRow) (s : Int) (n : Nat) : opened rows s (n + 1) = opened rows s n ++ [(s + (n : Int), (bestO (rowsOf rows (s + (n : Int)))).2, [])] := by
  unfold opened
  rw [List.range_succ, List.map_append]
  rfl
theorem opened_len (rows : List PRow) (s : Int) (n : Nat) : (opened rows s n).length = n := by
  unfold opened
  rw [List.length_map, List.length_range]
theorem maxDI_of {H : Hp} {Q : VK} {a : Addr} {kvs : List (Key × V)} {ks : List Int} {d : V} {top : Int} (e : H a = some (.dK kvs)) (hk : kvs.map (·.1) = ks.map Sum.inl) (h0 : ks = [] → d = .int top) (h1 : ∀ m ∈ ks, (∀ y ∈ ks, y ≤ m) → m = top) (q : Q (.int top) H) : rMaxDI [.ref a] [d] H Q :=
  ⟨a, kvs, ks, d, rfl, rfl, .inl e, hk, fun z => by rw [h0 z]; exact q, fun m hm hx => by rw [h1 m hm hx]; exact q⟩
def sp_openacc (C : Addr) (K : PySem.W.Frag) : Sp := fun vs H Q _ => ∃ (p : Addr) (f : PF) (ps : List (Int × List PRow)), vs = [.ref p] ∧ Pr C K H p f ps [] ∧ f.st = "leading" ∧ (ps.map (·.1)).Nodup ∧ (ps.flatMap (·.2)).length ≤ 1000 ∧ (∀ r ∈ ps.flatMap (·.2), 0 ≤ r.1 ∧ r.1 ≤ 5000) ∧ 0 ≤ f.nx ∧
  ∀ H', FP H H' → Pr C K H' p { f with nx := f.nx + ((topR (ps.flatMap (·.2)) + 1 - f.nx).toNat : Int) } ps (opened (ps.flatMap (·.2)) f.nx (topR (ps.flatMap (·.2)) + 1 - f.nx).toNat) → Q .non H'
/-- in the middle of the opening -/
def OMid (C : Addr) (K : PySem.W.Frag) (H : Hp) (f : PF) (ps : List (Int × List PRow)) (rows : List PRow) (p pd : Addr) (top : Int) (kvs : List (Key × V)) (ls : List Addr) (dP dO dV : Addr) (m : Nat) (σ : L2.St) (G : Hp) : Prop := ∃ (k : Nat) (ds : List Addr),
  k + m = (top + 1 - f.nx).toNat ∧ σ = [some (.ref p), some (.ref pd), some (.int top)] ∧ FP H G ∧ G pd = some (.dK kvs) ∧ GAt K G kvs ls (grp rows) ∧ PW C K G p { f with nx := f.nx + (k : Int) } ps (opened rows f.nx k) dP dO dV ds
section
variable {P : Program} {w : World} {K : PySem.W.Frag} {mg : Str → Option Value} {base : Heap}
theorem ok_value_to_propose (T : TX K mg) : FnOk P w K mg base CX0 1 T.a_value_to_propose T.d_value_to_propose ["pairs"] (sp_value K) := by
  refine T.F_value_to_propose.ok sc_value_to_propose (fun vs H Q E h => ?_) (fun cdv A outer s H vs Q E hr h => ?_)
  · obtain ⟨a, xs, ds, rfl, _⟩ := h
    rfl
  · obtain ⟨a, xs, ds, rfl, hS, hD, q⟩ := h
    refine ⟨_, (pss_cons (ps_set (i := 1) sc_value_to_propose.nd rfl (Or.inl rfl) (pe_un un_neg pe_int))
      (pss_cons (ps_set (i := 2) sc_value_to_propose.nd rfl (Or.inl rfl) (pe_glob (v := .ref T.ca_NOTHING) (by rfl) T.c_NOTHING rfl))
      (pss_cons (ps_for PassesOwn.never rfl (pi_list (pv 0)) (pg_tup (by rfl) (pgs_cons (pg_name (i := 3) sc_value_to_propose.nd rfl (Or.inl rfl)) (pgs_cons (pg_name (i := 4) sc_value_to_propose.nd rfl (Or.inl rfl)) pgs_nil)))
        (pss_one (ps_if (pt_cmpR op_gt (pv 3) (pv 1) (nomark _)) (pss_cons (ps_set (i := 1) sc_value_to_propose.nd rfl (Or.inl rfl) (pv 3))
          (pss_one (ps_set (i := 2) sc_value_to_propose.nd rfl (Or.inl rfl) (pv 4)))) pss_nil)))
      (pss_one (ps_ret (pv 2)))))), ?_⟩
    have hlen := pairs_len hD
    refine ⟨_, rfl, _, rfl, a, rfl, ⟨_, hS⟩, for_list (K := K) (a := a) (xs := xs) (fun i σ H2 => H = H2 ∧ ∃ v x3 x4, σ = [some (.ref a), some (.int (bestO (ds.take i)).1), some v, x3, x4] ∧ PVA K H v (bestO (ds.take i)).2)
      ⟨rfl, _, none, none, rfl, _, rfl, .inr (T.q_NOTHING _)⟩ (fun i σ H2 _ ⟨e, _⟩ => by rw [← e]; exact hS) ?_ ?_⟩
    · rintro i x σ _ hx ⟨rfl, v, x3, x4, rfl, hv⟩
      obtain ⟨r, hp, t, w, rfl, ht, hw⟩ := pairs_at hD hx
      have hm := bestO_more hp
      refine ⟨t, _, rfl, ht.seq, rfl, .int r.1, [w], rfl, w, [], rfl, rfl, ?_⟩
      refine ⟨_, rfl, _, rfl, _, _, rfl, rfl, _, rfl, ifd (fun hc => ?_) (fun hc => ?_)⟩
      · refine ⟨_, rfl, w, rfl, rfl, w, some (.int r.1), some w, ?_, ?_⟩
        · rw [hm, btr, if_pos hc]; rfl
        · rw [hm, btr, if_pos hc]; exact hw
      · refine ⟨rfl, v, some (.int r.1), some w, ?_, ?_⟩
        · rw [hm, btr, if_neg hc]; rfl
        · rw [hm, btr, if_neg hc]; exact hv
    · rintro σ _ ⟨rfl, v, x3, x4, rfl, hv⟩
      rw [hlen, List.take_length] at hv
      exact ⟨v, rfl, q v hv⟩
theorem ok_Proposer__open_accepted (T : TX K mg) : FnOk P w K mg base CX0 2 T.a_Proposer__open_accepted T.d_Proposer__open_accepted ["self"] (sp_openacc T.a_Proposer K) := by
  refine T.F_Proposer__open_accepted.ok sc_Proposer__open_accepted (fun vs H Q E h => ?_) (fun cdv A outer s H vs Q E hr h => ?_)
  · obtain ⟨p, f, ps, rfl, _⟩ := h
    rfl
  · obtain ⟨p, f, ps, rfl, ⟨dP, dO, dV, dvs, h⟩, hst, ndp, hlen, hrg, hn0, q⟩ := h
    refine ⟨_, (pss_cons (ps_set (i := 1) sc_Proposer__open_accepted.nd rfl (Or.inl rfl) (pe_meth0 (pv 0) T.K_Proposer T.m_Proposer__promised_pairs (ok_Proposer__promised_pairs T) (hr.mono (by decide)) T.b_Proposer__promised_pairs .nil pass0))
      (pss_cons (ps_set (i := 2) sc_Proposer__open_accepted.nd rfl (Or.inl rfl) (pe_callBK (cr_maxDI rfl) (by rfl) T.n_max (by decide +kernel) (pa_cons (pv 1) pa_nil) (pk_cons (pe_un un_neg pe_int) pk_nil)))
      (pss_one (ps_while PassesOwn.never (pt_cmpR op_le (pe_fld (pv 0) rfl) (pv 2) (nomark _))
        (pss_one (ps_expr (pe_meth (pv 0) T.K_Proposer T.m_Proposer_propose (ok_Proposer_propose T) (hr.mono (by decide)) T.b_Proposer_propose .nil pass0 (pa_cons (pe_call (ok_value_to_propose T) (hr.mono (by decide)) (by rfl) T.g_value_to_propose T.F_value_to_propose.kp T.b_value_to_propose .nil pass0 (pa_cons (pe_dget2 (hu_of hr) (pv 1) (pe_fld (pv 0) rfl) (pe_lst pa_nil) ⟨rfl, rfl, rfl, rfl⟩) pa_nil)) pa_nil)))))))), ?_⟩
    obtain ⟨dx, ob⟩ := h.ob
    unfold pfl at ob
    refine ⟨_, rfl, p, dx, _, rfl, ob, fl_Proposer_no__promised_pairs, p, f, ps, [], dP, dO, dV, dvs, rfl, h, ndp, hlen, fun pd kvs ls H1 fpd s1 e1 g1 => ?_⟩
    have hks := g_keys g1
    refine ⟨_, rfl, _, rfl, maxDI_of (top := topR (ps.flatMap (·.2))) e1 hks (fun z => ?_) (fun m hm hx => ?_) ?_⟩
    · have e : ps.flatMap (·.2) = [] := List.eq_nil_iff_forall_not_mem.mpr fun r hr => by
        have := (key_grp (ps.flatMap (·.2)) r.1).mpr ⟨r, hr, rfl⟩
        rw [z] at this
        cases this
      rw [e]
      rfl
    · obtain ⟨r, hr, e⟩ := (key_grp _ m).mp hm
      exact (top_is (fun r hr => (hrg r hr).1) ⟨r, hr, e⟩ fun r hr => hx r.1 ((key_grp _ _).mpr ⟨r, hr, rfl⟩)).symm
    have htop : topR (ps.flatMap (·.2)) ≤ 5000 := by
      obtain ⟨_, _, z | ⟨r, hr, e⟩⟩ := top_from (ps.flatMap (·.2)) (-1)
      · exact Int.le_trans (Int.le_of_eq z) (by decide)
      · exact Int.le_trans (Int.le_of_eq e.symm) (hrg r hr).2
    generalize topR (ps.flatMap (·.2)) = top at q htop
    generalize hrows : ps.flatMap (·.2) = rows at *
    have h1 := h.same s1
    have hnd : dP ≠ pd ∧ dO ≠ pd ∧ dV ≠ pd ∧ p ≠ pd := by
      obtain ⟨⟨_, o1⟩, ⟨_, o2, _⟩, ⟨_, o3, _⟩, ⟨_, o4, _⟩, _⟩ := h
      exact ⟨ne_of_none o2 fpd, ne_of_none o3 fpd, ne_of_none o4 fpd, ne_of_none o1 fpd⟩
    refine ⟨OMid T.a_Proposer K H f ps rows p pd top kvs ls dP dO dV, ⟨(top + 1 - f.nx).toNat, 0, dvs, Nat.zero_add _, rfl, FP.same s1, e1, g1, by rw [show f.nx + ((0 : Nat) : Int) = f.nx by omega]; exact h1⟩, ?_⟩
    rintro m σ G ⟨k, ds, hkm, rfl, fp, e2, g2, h2⟩
    obtain ⟨dx2, ob2⟩ := h2.ob
    unfold pfl at ob2
    refine ⟨_, rfl, p, _, dx2, _, _, rfl, ob2, T.K_Proposer, T.na_Proposer__next_slot, fl_Proposer__next_slot, _, rfl, _, _, rfl, rfl, _, rfl, ifd (fun hc => ?_) (fun hc => ?_)⟩
    · have hc' : f.nx + (k : Int) ≤ top := hc
      refine ⟨OMid T.a_Proposer K H f ps rows p pd top kvs ls dP dO dV (m - 1), fun σ' H' hN => ⟨m - 1, by omega, hN⟩, ?_⟩
      refine ⟨_, rfl, p, dx2, _, rfl, ob2, fl_Proposer_no_propose, _, rfl, pd, rfl, .inl ⟨kvs, .inl e2⟩, _, rfl, p, _, dx2, _, _, rfl, ob2, T.K_Proposer, T.na_Proposer__next_slot, fl_Proposer__next_slot, Nat.zero_le _, fun l hl => ⟨_, DGet.k (k := Sum.inl (f.nx + (k : Int))) (by rw [upd_ne (ne_of_none e2 hl)]; exact e2), ?_⟩⟩
      have s2 := same_upd (o := .lst []) hl
      have hv : ∃ (a : Addr) (xs : List V), (valV kvs (.inl (f.nx + (k : Int)))).getD (.ref l) = .ref a ∧ SqL K (upd G l (.lst [])) a xs ∧ PairsIs K (upd G l (.lst [])) xs (rowsOf rows (f.nx + (k : Int))) := by
        have lk := g_look (s := f.nx + (k : Int)) g2
        rw [look_grp] at lk
        cases e : valV kvs (.inl (f.nx + (k : Int))) with
        | none =>
          rw [lk.2 e]
          exact ⟨l, [], rfl, sql upd_same, trivial⟩
        | some v =>
          obtain ⟨l', xs, rfl, m1, m2⟩ := lk.1 v e
          exact ⟨l', xs, rfl, sql (s2 _ _ m1), pairs_tk (TK.same s2) m2⟩
      obtain ⟨a, xs, ea, hS, hP⟩ := hv
      refine ⟨a, xs, _, by rw [ea]; rfl, hS, hP, fun v hv => ?_⟩
      have e3 := s2 _ _ e2
      have g3 := g_tk (TK.same s2) (fun d _ o h => s2 _ _ h) g2
      have h3 := h2.same s2
      have fp3 := fp.trans (FP.same s2)
      generalize upd G l (.lst []) = G3 at hv e3 g3 h3 fp3
      refine ⟨p, _, ps, _, v, _, dP, dO, dV, ds, rfl, hv, h3, by rw [opened_len]; omega, fun e he => ?_, fun z => absurd hst z, fun _ d2 H' fd2 k3 h4 => ?_⟩
      · obtain ⟨i, hi, rfl⟩ := List.mem_map.mp he
        have := List.mem_range.mp hi
        show f.nx + (i : Int) < f.nx + (k : Int)
        omega
      · have hno : ∀ (x : Addr), (∃ xs, G3 x = some (.lst xs)) → x ∉ [p, dO, dV] := fun x ⟨xs, hx⟩ z => by
          obtain ⟨⟨_, o1⟩, _, ⟨_, o3, _⟩, ⟨_, o4, _⟩, _⟩ := h3
          simp only [List.mem_cons, List.not_mem_nil, or_false] at z
          rcases z with z | z | z
          · rw [z, o1] at hx; cases hx
          · rw [z, o3] at hx; cases hx
          · rw [z, o4] at hx; cases hx
        have hm3 : ∀ x ∈ [p, dO, dV], x ∈ p :: dP :: dO :: dV :: ds := fun x hx => by
          simp only [List.mem_cons, List.not_mem_nil, or_false] at hx ⊢
          rcases hx with z | z | z
          · exact .inl z
          · exact .inr (.inr (.inl z))
          · exact .inr (.inr (.inr (.inl z)))
        have en : f.nx + (k : Int) + 1 = f.nx + ((k + 1 : Nat) : Int) := by omega
        refine ⟨k + 1, ds ++ [d2], by omega, rfl, fp3.trans (h3.fp (k3.mono hm3)), k3 _ _ e3 fun z => ?_, g_tk (h3.fp (k3.mono hm3)).tk (fun d hd o h => k3 _ _ h (hno d (g_there g3 d hd))) g3, ?_⟩
        · simp only [List.mem_cons, List.not_mem_nil, or_false] at z
          rcases z with z | z | z
          · exact hnd.2.2.2 z.symm
          · exact hnd.2.1 z.symm
          · exact hnd.2.2.1 z.symm
        · rw [← en, opened_more]
          exact h4
    · have hc' : ¬ f.nx + (k : Int) ≤ top := hc
      have ek : k = (top + 1 - f.nx).toNat := by omega
      subst ek
      exact q G fp ⟨_, _, _, _, h2⟩
end
/-! comprehensions whose elements are data -/
/-- what stood in G away from D stands in G'' -/
def Off (D : Addr) (G G'' : Hp) : Prop := ∀ b o, b ≠ D → G b = some o → G'' b = some o
theorem Off.refl (D : Addr) (G : Hp) : Off D G G := fun _ _ _ h => h
theorem Off.pre {D : Addr} {G G' G'' : Hp} (s : Same G G') (h : Off D G' G'') : Off D G G'' := fun b o n e => h b o n (s b o e)
theorem Off.put {D : Addr} {G G'' : Hp} {o : HO} (h : Off D (upd G D o) G'') : Off D G G'' := fun b u n e => h b u n (by rw [upd_ne n]; exact e)
theorem lcg {K : PySem.W.Frag} {J : It} {n : Nat} {Gd : Hp → Prop} {Y : Nat → Hp → V → Hp → Prop} (w : Walk J n Gd Y) {g : TG} {tt : TT} {te : TE} {vs : List Nat} {σ : L2.St} {H : Hp} {D : Addr} {Qd : Hp → Prop}
    (P : Nat → List PyData → Prop) (h0 : P 0 []) (hD : H D = none) (hG : ∀ G, Same H G → Gd G) (hn : n ≤ 90000)
    (hs : ∀ i x G G1 ds, i < n → Same H G → (∃ l, G D = some (.lst l)) → P i ds → Y i G x G1 → ∀ J : Option V → Hp → Prop, (∀ G', Same G G' → P (i + 1) ds → J none G') →
      (∀ y d G', Same G G' → (∀ G'', Same H G'' → Off D G' G'' → Dp K G'' y d) → P (i + 1) (ds ++ [d]) → J (some y) G') →
      g x (wipe σ vs) G1 fun σ2 H2 => wipe σ2 vs = wipe σ vs ∧ tt σ2 H2 fun b H3 => if b = true then te σ2 H3 fun y H4 => J (some y) H4 else J none H3)
    (k : ∀ H' ys ds, Same H H' → H' D = some (.lst ys) → DpAll K H' ys ds → P n ds → Qd H') :
    ∃ W : Nat → Nat → Hp → Prop, (∃ m, W 0 m (upd H D (.lst []))) ∧ ∀ i m H, W i m H →
      (J.stop i H ∧ Qd H) ∨ (J.go i H ∧ ∃ Nx : Hp → Prop, (∀ H', Nx H' → ∃ m', m' < m ∧ W (i + 1) m' H') ∧ ∀ x H', J.yld i H x H' → g x (wipe σ vs) H' fun σ2 H2 => wipe σ2 vs = wipe σ vs ∧ tt σ2 H2 fun b H3 =>
        if b = true then te σ2 H3 fun y H4 => ∃ acc, H4 D = some (.lst acc) ∧ acc.length < sizeLine ∧ Nx (upd H4 D (.lst (acc ++ [y]))) else Nx H3) := by
  refine lc_it w (fun i G => ∃ ys ds, Same H G ∧ G D = some (.lst ys) ∧ (∀ G'', Same H G'' → Off D G G'' → DpAll K G'' ys ds) ∧ P i ds ∧ ds.length ≤ i) ⟨[], [], same_upd hD, upd_same, fun _ _ _ => .nil, h0, Nat.le_refl _⟩ (fun i G _ h => hG G h.choose_spec.choose_spec.1) ?_ ?_
  · rintro i x G G1 hi ⟨ys, ds, s1, e1, h1, p1, l1⟩ hy
    have hl : ys.length = ds.length := dpa_len (h1 G s1 (Off.refl _ _))
    refine hs i x G G1 ds hi s1 ⟨ys, e1⟩ p1 hy (fun o G' => match o with
      | some y => ∃ acc, G' D = some (.lst acc) ∧ acc.length < sizeLine ∧ ∃ ys ds, Same H (upd G' D (.lst (acc ++ [y]))) ∧ (upd G' D (.lst (acc ++ [y]))) D = some (.lst ys) ∧ (∀ G'', Same H G'' → Off D (upd G' D (.lst (acc ++ [y]))) G'' → DpAll K G'' ys ds) ∧ P (i + 1) ds ∧ ds.length ≤ i + 1
      | none => ∃ ys ds, Same H G' ∧ G' D = some (.lst ys) ∧ (∀ G'', Same H G'' → Off D G' G'' → DpAll K G'' ys ds) ∧ P (i + 1) ds ∧ ds.length ≤ i + 1) ?_ ?_
    · exact fun G' s p => ⟨ys, ds, s1.trans s, s _ _ e1, fun G'' s2 o => h1 G'' s2 (Off.pre s o), p, by omega⟩
    · exact fun y d G' s hy p => ⟨ys, s _ _ e1, szl (by omega), ys ++ [y], ds ++ [d], same_put (s1.trans s) hD, upd_same, fun G'' s2 o => dpa_app (h1 G'' s2 (Off.pre s o.put)) (.cons (hy G'' s2 o.put) .nil), p, by rw [List.length_append]; simp only [List.length_cons, List.length_nil]; omega⟩
  · rintro G ⟨ys, ds, s1, e1, h1, p1, _⟩
    exact k G ys ds s1 e1 (h1 G s1 (Off.refl _ _)) p1
/-- over a list of data, each element by a function -/
theorem lcd {α : Type} {K : PySem.W.Frag} {g : TG} {tt : TT} {te : TE} {vs : List Nat} {σ : L2.St} {H : Hp} {D a : Addr} {Qd : Hp → Prop} {xs : List V} (es : List α) (pd : α → PyData) (f : α → Option PyData)
    (hD : H D = none) (hL : SqL K H a xs) (hx : DpAll K H xs (es.map pd)) (hn : es.length ≤ 90000)
    (hs : ∀ x e G, e ∈ es → Same H G → (∃ l, G D = some (.lst l)) → Dp K H x (pd e) → ∀ J : Option V → Hp → Prop, (∀ G', Same G G' → f e = none → J none G') →
      (∀ y d G', Same G G' → (∀ G'', Same H G'' → Off D G' G'' → Dp K G'' y d) → f e = some d → J (some y) G') →
      g x (wipe σ vs) G fun σ2 H2 => wipe σ2 vs = wipe σ vs ∧ tt σ2 H2 fun b H3 => if b = true then te σ2 H3 fun y H4 => J (some y) H4 else J none H3)
    (k : ∀ H' ys, Same H H' → H' D = some (.lst ys) → DpAll K H' ys (es.filterMap f) → Qd H') :
    ∃ W : Nat → Nat → Hp → Prop, (∃ m, W 0 m (upd H D (.lst []))) ∧ ∀ i m H, W i m H →
      ((Itl K a).stop i H ∧ Qd H) ∨ ((Itl K a).go i H ∧ ∃ Nx : Hp → Prop, (∀ H', Nx H' → ∃ m', m' < m ∧ W (i + 1) m' H') ∧ ∀ x H', (Itl K a).yld i H x H' → g x (wipe σ vs) H' fun σ2 H2 => wipe σ2 vs = wipe σ vs ∧ tt σ2 H2 fun b H3 =>
        if b = true then te σ2 H3 fun y H4 => ∃ acc, H4 D = some (.lst acc) ∧ acc.length < sizeLine ∧ Nx (upd H4 D (.lst (acc ++ [y]))) else Nx H3) := by
  have hl : xs.length = es.length := by have := dpa_len hx; rwa [List.length_map] at this
  refine lcg (K := K) (walk_list (K := K) (a := a) (xs := xs)) (fun i ds => ds = (es.take i).filterMap f) rfl hD (fun G s => s.seq hL) (by omega) ?_ ?_
  · rintro i x G G1 ds hi s1 hl1 rfl ⟨rfl, hxi⟩ J j1 j2
    have hi2 : i < es.length := by omega
    have he : es[i]? = some es[i] := List.getElem?_eq_getElem hi2
    obtain ⟨d, hd, hdp⟩ := dpa_at hx hxi
    rw [List.getElem?_map, he] at hd
    cases hd
    have ht : (es.take (i + 1)).filterMap f = (es.take i).filterMap f ++ (f es[i]).toList := by
      rw [take_more he, List.filterMap_append]
      cases e : f es[i] <;> simp [e]
    refine hs x es[i] G1 (List.getElem_mem hi2) s1 hl1 hdp J (fun G' s e => j1 G' s ?_) (fun y d G' s hy e => j2 y d G' s hy ?_)
    · rw [ht, e]; simp
    · rw [ht, e]; rfl
  · rintro H' ys ds s1 e1 h1 rfl
    rw [hl, List.take_length] at h1
    exact k H' ys s1 e1 h1
def kD : Key → PyData
  | .inl i => .int i
  | .inr s => .str s
def valD (d : PVal) : PyData := .tuple (d.map kD)
def entD (e : PEnt) : PyData := .tuple [.int e.1, valD e.2.1]
section
variable {K : PySem.W.Frag} {H : Hp}
theorem kv_dp : ∀ d : List Key, DpAll K H (d.map kV) (d.map kD)
  | [] => .nil
  | .inl i :: d => .cons (.int i) (kv_dp d)
  | .inr s :: d => .cons (.str s) (kv_dp d)
theorem PVA.dp {v : V} {d : PVal} (h : PVA K H v d) : Dp K H v (valD d) := by
  obtain ⟨t, rfl, q⟩ := h
  exact .tup q.seq (kv_dp d)
theorem op_at : ∀ {kvs : List (Key × V)} {es : List PEnt}, OpAt K H kvs es → (es.map (·.1)).Nodup → ∀ e ∈ es, ∃ v, valV kvs (.inl e.1) = some v ∧ PVA K H v e.2.1
  | [], [], _, _, _, h => by cases h
  | (k, v) :: kvs, e' :: es, ⟨a, b, c⟩, nd, e, he => by
    have nd2 := List.nodup_cons.mp nd
    rcases List.mem_cons.mp he with z | z
    · subst z
      exact ⟨v, valV_pos (show (k, v).1 = _ from a), b⟩
    · obtain ⟨w, h1, h2⟩ := op_at c nd2.2 e z
      refine ⟨w, ?_, h2⟩
      rw [valV_neg (show ¬ (k, v).1 = _ from fun q => nd2.1 (by
        have := a.symm.trans q
        show e'.1 ∈ _
        rw [Sum.inl.inj this]
        exact List.mem_map.mpr ⟨e, z, rfl⟩))]
      exact h1
end
theorem nd_lt {l : List Int} (h : l.Pairwise (· < ·)) : l.Nodup := h.imp fun a => Int.ne_of_lt a
theorem srt_uniq {a b : List Int} (h : a.Pairwise (· ≤ ·)) (g : b.Pairwise (· < ·)) (p : a.Perm b) : a = b :=
  p.eq_of_pairwise (fun x y _ _ h1 h2 => Int.le_antisymm h1 h2) h (g.imp Int.le_of_lt)
def sp_open (C : Addr) (K : PySem.W.Frag) : Sp := fun vs H Q _ => ∃ (p : Addr) (f : PF) (ps : List (Int × List PRow)) (es : List PEnt), vs = [.ref p] ∧ Pr C K H p f ps es ∧ es.length < 64 ∧ (es.map (·.1)).Pairwise (· < ·) ∧
  ∀ (l : Addr) (xs : List V) (H' : Hp), Same H H' → H' l = some (.lst xs) → Dp K H' (.ref l) (.list (es.map entD)) → Q (.ref l) H'
section
variable {P : Program} {w : World} {K : PySem.W.Frag} {mg : Str → Option Value} {base : Heap}
theorem ok_Proposer_open_proposals (T : TX K mg) : FnOk P w K mg base CX0 1 T.a_Proposer_open_proposals T.d_Proposer_open_proposals ["self"] (sp_open T.a_Proposer K) := by
  refine T.F_Proposer_open_proposals.ok sc_Proposer_open_proposals (fun vs H Q E h => ?_) (fun cdv A outer s H vs Q E hr h => ?_)
  · obtain ⟨p, f, ps, es, rfl, _⟩ := h
    rfl
  · obtain ⟨p, f, ps, es, rfl, ⟨dP, dO, dV, dvs, h⟩, hl, hs, q⟩ := h
    refine ⟨_, (pss_one (ps_ret (pe_lc (own := [("slot", 1)]) (g := gName 1) (tt := tYes) (by rfl) sc_Proposer_open_proposals.nd (pi_list (pe_callB (call_sortedDI rfl) (by rfl) T.n_sorted (by decide +kernel) (pa_cons (pe_fld (pv 0) rfl) pa_nil))) (blkOk_by (own := [("slot", 1)]) (N := ["self", "slot"]) (sc := defScope s_Proposer_open_proposals) (by decide +kernel)) (fun _ _ _ _ _ => pg_name (i := 1) sc_Proposer_open_proposals.nd rfl (Or.inl rfl)) (fun _ _ _ _ _ => pts_nil) (fun _ _ _ _ _ => (pe_tup (pa_cons (pv 1) (pa_cons (pe_dget (hu_of hr) (pe_fldK (K := K) rfl (pv 0) rfl) (pv 1) (fun _ _ => rfl)) pa_nil))))))), ?_⟩
    obtain ⟨⟨dx, ob⟩, _, ⟨kO, eO, aO⟩, _⟩ := h
    unfold pfl at ob
    refine ⟨_, rfl, p, _, dx, _, _, rfl, ob, T.K_Proposer, T.na_Proposer__proposals, fl_Proposer__proposals, dO, kO, es.map (·.1), rfl, .inl eO, by rw [op_keys aO, List.map_map]; rfl, by rw [List.length_map]; exact hl, fun ys a hp ho ha => ?_⟩
    obtain rfl := srt_uniq ho hs hp
    have s1 := same_upd (o := .lst ((es.map (·.1)).map V.int)) ha
    have eO1 := s1 _ _ eO
    have ob1 := s1 _ _ ob
    have aO1 := op_tk (TK.same s1) aO
    have eL : (upd H a (.lst ((es.map (·.1)).map V.int))) a = some (.lst ((es.map (·.1)).map V.int)) := upd_same
    have ndE := nd_lt hs
    have hI : DpAll K (upd H a (.lst ((es.map (·.1)).map V.int))) ((es.map (·.1)).map V.int) (es.map fun e => .int e.1) := by
      have := dpa_ints (K := K) (H := upd H a (.lst ((es.map (·.1)).map V.int))) (es.map (·.1))
      rwa [List.map_map (g := PyData.int)] at this
    generalize upd H a (.lst ((es.map (·.1)).map V.int)) = G1 at s1 eO1 ob1 aO1 eL hI
    refine ⟨a, rfl, ⟨_, sql eL⟩, fun D hD => ?_⟩
    refine lcd (K := K) es (fun e => .int e.1) (fun e => some (entD e)) hD (sql eL) hI (by omega) ?_ ?_
    · intro x e G he s5 hDl hdp J j1 j2
      cases hdp
      obtain ⟨v, hv1, hv2⟩ := op_at aO1 ndE e he
      refine ⟨rfl, ?_⟩
      dsimp only [tYes]
      refine (if_pos rfl).mpr ?_
      refine ⟨_, rfl, _, rfl, p, _, dx, _, _, rfl, s5 _ _ ob1, T.K_Proposer, T.na_Proposer__proposals, fl_Proposer__proposals, _, rfl, dO, v, rfl, by rw [← hv1]; exact DGet.k (k := Sum.inl e.1) (s5 _ _ eO1), (by show 2 ≤ sizeLine; decide), fun t ht => ?_⟩
      refine j2 (.ref t) (entD e) _ (same_upd ht) (fun G2 s6 off => ?_) rfl
      have nt : t ≠ D := fun z => by
        obtain ⟨l, hl⟩ := hDl
        rw [z, hl] at ht
        cases ht
      exact .tup (sqt (off _ _ nt upd_same)) (.cons (.int _) (.cons (hv2.tk (TK.same s6)).dp .nil))
    intro H' zs s5 e5 h5
    have e6 : es.filterMap (fun e => some (entD e)) = es.map entD := by
      induction es with
      | nil => rfl
      | cons e r ih => simp
    rw [e6] at h5
    exact q D zs H' (s1.trans s5) e5 (.lst (sql e5) h5)
end
theorem ps_app {K : PySem.W.Frag} {H : Hp} {i : Int} {t : Addr} {xs : List V} {rs : List PRow} (ht : StT K H t xs) (hr : RowsIs K H xs rs) : ∀ {kvs : List (Key × V)} {ps : List (Int × List PRow)}, PsAt K H kvs ps → PsAt K H (kvs ++ [(.inl i, .ref t)]) (ps ++ [(i, rs)])
  | [], [], _ => ⟨rfl, ⟨t, xs, rfl, ht, hr⟩, trivial⟩
  | (_, _) :: _, (_, _) :: _, ⟨a, b, c⟩ => ⟨a, b, ps_app ht hr c⟩
theorem ps_val {K : PySem.W.Frag} {H : Hp} {i : Int} : ∀ {kvs : List (Key × V)} {ps : List (Int × List PRow)}, PsAt K H kvs ps → (valV kvs (.inl i)).isSome = decide (i ∈ ps.map (·.1))
  | [], [], _ => rfl
  | (k, v) :: kvs, (j, rs) :: ps, ⟨a, _, c⟩ => by
    by_cases h : j = i
    · rw [valV_pos (show (k, v).1 = _ by show k = _; rw [a, h])]
      exact (decide_eq_true (by rw [List.map_cons, h]; exact List.mem_cons_self)).symm
    · rw [valV_neg (show ¬ (k, v).1 = _ by show ¬ k = _; rw [a]; exact fun z => h (Sum.inl.inj z)), ps_val c]
      rw [Bool.eq_iff_iff, decide_eq_true_iff, decide_eq_true_iff, List.map_cons, List.mem_cons]
      exact ⟨.inr, fun z => z.resolve_left fun e => h e.symm⟩
theorem opened_lt (rows : List PRow) (s : Int) (n : Nat) : ((opened rows s n).map (·.1)).Pairwise (· < ·) := by
  unfold opened
  rw [List.map_map]
  refine List.Pairwise.map _ (fun a b h => ?_) List.pairwise_lt_range
  show s + (a : Int) < s + (b : Int)
  omega
/-- what a promise that is taken leaves -/
def promF (f : PF) (base : Int) : PF := { f with nx := mxI f.nx base }
def leadF (f : PF) (rows : List PRow) (base : Int) : PF := { f with st := "leading", nx := mxI f.nx base + ((topR rows + 1 - mxI f.nx base).toNat : Int) }
def openF (f : PF) (rows : List PRow) (base : Int) : List PEnt := opened rows (mxI f.nx base) (topR rows + 1 - mxI f.nx base).toNat
def sp_hear (C : Addr) (K : PySem.W.Frag) : Sp := fun vs H Q _ => ∃ (p : Addr) (f : PF) (ps : List (Int × List PRow)) (es : List PEnt) (i b base : Int) (t : Addr) (xs : List V) (rs : List PRow), vs = [.ref p, .int i, .int b, .int base, .ref t] ∧ Pr C K H p f ps es ∧ StT K H t xs ∧ RowsIs K H xs rs ∧
  (f.st = "preparing" → es = []) ∧ (ps.map (·.1)).Nodup ∧ (ps.flatMap (·.2) ++ rs).length ≤ 1000 ∧ (∀ r ∈ ps.flatMap (·.2) ++ rs, 0 ≤ r.1 ∧ r.1 ≤ 5000 ∧ r.1 ≤ f.nx + 4) ∧ 0 ≤ f.nx ∧ ps.length ≤ 100 ∧
  ((f.st ≠ "preparing" ∨ b ≠ f.b ∨ i ∈ ps.map (·.1)) → ∀ (l : Addr) (H' : Hp), Same H H' → H' l = some (.lst []) → Q (.ref l) H') ∧
  (¬ (f.st ≠ "preparing" ∨ b ≠ f.b ∨ i ∈ ps.map (·.1)) → ((ps.length : Int) + 1 < f.ct / 2 + 1) → ∀ (l : Addr) (H' : Hp), FP H H' → Pr C K H' p (promF f base) (ps ++ [(i, rs)]) [] → H' l = some (.lst []) → Q (.ref l) H') ∧
  (¬ (f.st ≠ "preparing" ∨ b ≠ f.b ∨ i ∈ ps.map (·.1)) → ¬ ((ps.length : Int) + 1 < f.ct / 2 + 1) → ∀ (l : Addr) (ys : List V) (H' : Hp), FP H H' → Pr C K H' p (leadF f (ps.flatMap (·.2) ++ rs) base) (ps ++ [(i, rs)]) (openF f (ps.flatMap (·.2) ++ rs) base) → H' l = some (.lst ys) →
    Dp K H' (.ref l) (.list ((openF f (ps.flatMap (·.2) ++ rs) base).map entD)) → Q (.ref l) H')
theorem PW.prom {C : Addr} {K : PySem.W.Frag} {H : Hp} {p dP dO dV : Addr} {dvs : List Addr} {f : PF} {ps : List (Int × List PRow)} {es : List PEnt} (h : PW C K H p f ps es dP dO dV dvs) {i : Int} {t : Addr} {xs : List V} {rs : List PRow} {kP : List (Key × V)}
    (eP : H dP = some (.dK kP)) (aP : PsAt K H kP ps) (ht : StT K H t xs) (hr : RowsIs K H xs rs) : PW C K (upd H dP (.dK (kP ++ [(.inl i, .ref t)]))) p f (ps ++ [(i, rs)]) es dP dO dV dvs := by
  obtain ⟨⟨dx, ob⟩, _, ⟨kO, eO, aO⟩, ⟨kV, eV, aV⟩, nd⟩ := h
  have tk := (FP.up (u := .dK (kP ++ [(Sum.inl i, .ref t)])) eP (ps_int aP)).tk
  have nd2 := nd
  simp only [List.nodup_cons, List.mem_cons, not_or] at nd2
  refine ⟨⟨dx, ?_⟩, ⟨_, upd_same, ps_app (ht.tk tk) (rows_tk tk hr) (ps_tk tk aP)⟩, ⟨kO, ?_, op_tk tk aO⟩, ⟨kV, ?_, vo_fr (fun d hd o e => ?_) aV⟩, nd⟩
  · rw [upd_ne (fun z => by rw [z, eP] at ob; cases ob)]
    exact ob
  · rw [upd_ne (Ne.symm nd2.1.1)]
    exact eO
  · rw [upd_ne (Ne.symm nd2.1.2.1)]
    exact eV
  · rw [upd_ne (fun z => nd2.1.2.2 (by rw [← z]; exact hd))]
    exact e
section
variable {P : Program} {w : World} {K : PySem.W.Frag} {mg : Str → Option Value} {base : Heap}
theorem ok_Proposer_hear_promise (T : TX K mg) : FnOk P w K mg base CX0 3 T.a_Proposer_hear_promise T.d_Proposer_hear_promise ["self", "index", "ballot", "base", "rows"] (sp_hear T.a_Proposer K) := by
  refine T.F_Proposer_hear_promise.ok sc_Proposer_hear_promise (fun vs H Q E h => ?_) (fun cdv A outer s H vs Q E hr h => ?_)
  · obtain ⟨p, f, ps, es, i, b, bs, t, xs, rs, rfl, _⟩ := h
    rfl
  · obtain ⟨p, f, ps, es, i, b, bs, t, xs, rs, rfl, ⟨dP, dO, dV, dvs, h⟩, ht, hrs, hes, ndp, hlen, hrg, hn0, hpl, q1, q2, q3⟩ := h
    refine ⟨_, (pss_cons (ps_if (PW.pt (pw_or (pt_cmpR op_ne (pe_fld (pv 0) rfl) (pe_glob (v := .str "preparing") (by rfl) T.c_PREPARING ⟨_, rfl⟩) (nomark _)) (pw_or (pt_cmpR op_ne (pv 2) (pe_fld (pv 0) rfl) (nomark _)) (pw_or1 (pt_cmp (pc_din (hu_of hr) (pv 1) (pe_fld (pv 0) rfl))))))) (pss_one (ps_ret (pe_lst pa_nil))) pss_nil)
      (pss_cons (ps_dput (hu_of hr) (pe_fld (pv 0) rfl) (pv 1) (pe_callTy call_tuple_of (by rfl) T.n_tuple (by decide +kernel) (pa_cons (pv 4) pa_nil)) rfl)
      (pss_cons (ps_fld (pv 0) (pe_callB (call_max2 rfl) (by rfl) T.n_max (by decide +kernel) (pa_cons (pe_fld (pv 0) rfl) (pa_cons (pv 3) pa_nil))) rfl)
      (pss_cons (ps_if (pt_cmpR op_lt (pe_callB call_lenD (by rfl) T.n_len PySem.boot_len (pa_cons (pe_fld (pv 0) rfl) pa_nil)) (pe_call (ok_majority T) (hr.mono (by decide)) (by rfl) T.g_majority T.F_majority.kp T.b_majority .nil pass0 (pa_cons (pe_fld (pv 0) rfl) pa_nil)) (nomark _)) (pss_one (ps_ret (pe_lst pa_nil))) pss_nil)
      (pss_cons (ps_fld (pv 0) (pe_glob (v := .str "leading") (by rfl) T.c_LEADING ⟨_, rfl⟩) rfl)
      (pss_cons (ps_expr (pe_meth0 (pv 0) T.K_Proposer T.m_Proposer__open_accepted (ok_Proposer__open_accepted T) (hr.mono (by decide)) T.b_Proposer__open_accepted .nil pass0))
      (pss_one (ps_ret (pe_meth0 (pv 0) T.K_Proposer T.m_Proposer_open_proposals (ok_Proposer_open_proposals T) (hr.mono (by decide)) T.b_Proposer_open_proposals .nil pass0))))))))), ?_⟩
    obtain ⟨⟨dx, ob⟩, ⟨kP, eP, aP⟩, _⟩ := id h
    unfold pfl at ob
    refine ⟨_, rfl, p, _, dx, _, _, rfl, ob, T.K_Proposer, T.na_Proposer_state, fl_Proposer_state, rfl, _, rfl, ?_⟩
    have ret : (f.st ≠ "preparing" ∨ b ≠ f.b ∨ i ∈ ps.map (·.1)) → ∀ D : Ends, D.rt = Q → tRet (tLst tNil) D (L2.start ["self", "index", "ballot", "base", "rows"] [.ref p, .int i, .int b, .int bs, .ref t]) H := fun z D e => ⟨Nat.zero_le _, fun l hl => by rw [e]; exact q1 z l _ (same_upd hl) upd_same⟩
    refine ifb2 (fun hc => ifbt rfl (ret (.inl fun z => by rw [z] at hc; revert hc; decide +kernel) _ rfl)) fun hc => ?_
    have hst : f.st = "preparing" := Decidable.byContradiction fun z => by
      rw [decide_eq_false (fun y => z (V.str.inj y))] at hc
      cases hc
    refine ⟨_, rfl, _, rfl, p, _, dx, _, _, rfl, ob, T.K_Proposer, T.na_Proposer_ballot, fl_Proposer_ballot, rfl, _, rfl, ?_⟩
    refine ifb2 (fun hc2 => ifbt rfl (ret (.inr (.inl fun z => by rw [z] at hc2; simp at hc2)) _ rfl)) fun hc2 => ?_
    have hb : b = f.b := Decidable.byContradiction fun z => by
      rw [decide_eq_false (fun y => z (V.int.inj y))] at hc2
      cases hc2
    refine ⟨_, rfl, _, rfl, p, _, dx, _, _, rfl, ob, T.K_Proposer, T.na_Proposer__promises, fl_Proposer__promises, dP, _, rfl, DGet.k (k := Sum.inl i) eP, _, rfl, ?_⟩
    rw [ps_val aP]
    refine ifd (fun hi => ret (.inr (.inr hi)) _ rfl) fun hi => ?_
    have hnot : ¬ (f.st ≠ "preparing" ∨ b ≠ f.b ∨ i ∈ ps.map (·.1)) := fun z => z.elim (fun q => q hst) fun z => z.elim (fun q => q hb) hi
    have q2 := q2 hnot
    have q3 := q3 hnot
    obtain rfl := hes hst
    clear ret q1
    have lP := ps_len aP
    have hvn : valV kP (.inl i) = none := by
      have := ps_val (i := i) aP
      rw [decide_eq_false hi] at this
      cases e : valV kP (.inl i) with
      | none => rfl
      | some v => rw [e] at this; cases this
    refine ⟨_, rfl, t, xs, rfl, .inr ⟨ht.seq, ?_⟩⟩
    refine ⟨_, rfl, p, _, dx, _, _, rfl, ob, T.K_Proposer, T.na_Proposer__promises, fl_Proposer__promises, _, rfl, dP, _, rfl, DPut.k (k := Sum.inl i) eP (szl (by omega)), ?_⟩
    rw [put_none hvn]
    have h1 := h.prom (i := i) eP aP ht hrs
    have fp1 : FP H (upd H dP (.dK (kP ++ [(Sum.inl i, .ref t)]))) := FP.up eP (ps_int aP)
    have nPp : dP ≠ p := fun z => by rw [z, ob] at eP; cases eP
    have ob1 : (upd H dP (.dK (kP ++ [(Sum.inl i, .ref t)]))) p = some (.ins T.a_Proposer dx (fl_Proposer (.int f.b) (.str f.st) (.int f.ix) (.int f.ct) (.int f.sn) (.int f.nx) (.ref dP) (.ref dO) (.ref dV))) := by rw [upd_ne nPp.symm]; exact ob
    have eP1 : (upd H dP (.dK (kP ++ [(Sum.inl i, .ref t)]))) dP = some (.dK (kP ++ [(Sum.inl i, .ref t)])) := upd_same
    generalize upd H dP (.dK (kP ++ [(Sum.inl i, .ref t)])) = G1 at h1 fp1 ob1 eP1
    refine ⟨_, rfl, p, _, dx, _, _, rfl, ob1, T.K_Proposer, T.na_Proposer__next_slot, fl_Proposer__next_slot, _, rfl, _, _, rfl, ?_⟩
    refine ⟨_, rfl, p, T.a_Proposer, dx, _, rfl, ob1, T.K_Proposer, T.na_Proposer__next_slot, (by show 9 < 1000; decide), ?_⟩
    rw [pf_Proposer__next_slot]
    have ob2 : (upd G1 p (.ins T.a_Proposer dx (fl_Proposer (.int f.b) (.str f.st) (.int f.ix) (.int f.ct) (.int f.sn) (.int (mxI f.nx bs)) (.ref dP) (.ref dO) (.ref dV)))) p = some (.ins T.a_Proposer dx (fl_Proposer (.int f.b) (.str f.st) (.int f.ix) (.int f.ct) (.int f.sn) (.int (mxI f.nx bs)) (.ref dP) (.ref dO) (.ref dV))) := upd_same
    have k2 : Fr [p] G1 (upd G1 p (.ins T.a_Proposer dx (fl_Proposer (.int f.b) (.str f.st) (.int f.ix) (.int f.ct) (.int f.sn) (.int (mxI f.nx bs)) (.ref dP) (.ref dO) (.ref dV)))) := (Fr.refl [p] G1).up (List.mem_singleton.mpr rfl)
    change tSeq _ _ _ _ (upd G1 p (.ins T.a_Proposer dx (fl_Proposer (.int f.b) (.str f.st) (.int f.ix) (.int f.ct) (.int f.sn) (.int (mxI f.nx bs)) (.ref dP) (.ref dO) (.ref dV))))
    generalize upd G1 p (.ins T.a_Proposer dx (fl_Proposer (.int f.b) (.str f.st) (.int f.ix) (.int f.ct) (.int f.sn) (.int (mxI f.nx bs)) (.ref dP) (.ref dO) (.ref dV))) = G2 at ob2 k2
    have h2 := h1.set (g := promF f bs) k2 ⟨dx, ob2⟩
    have fp2 := fp1.trans (FP.fr ob1 k2)
    have eP2 := k2 _ _ eP1 (by simpa using nPp)
    have lP2 : ((kP ++ [(Sum.inl i, V.ref t)]).length : Int) = (ps.length : Int) + 1 := by rw [List.length_append, lP]; rfl
    refine ⟨_, rfl, p, _, dx, _, _, rfl, ob2, T.K_Proposer, T.na_Proposer__promises, fl_Proposer__promises, dP, _, rfl, eP2, _, rfl, p, _, dx, _, _, rfl, ob2, T.K_Proposer, T.na_Proposer__count, fl_Proposer__count, _, rfl, _, _, rfl, rfl, _, rfl, ?_⟩
    rw [lP2]
    refine ifd (fun hc => ?_) fun hc => ?_
    · refine ⟨Nat.zero_le _, fun l hl => ?_⟩
      have s3 := same_upd (o := .lst []) hl
      exact q2 hc l _ (fp2.trans (FP.same s3)) ⟨_, _, _, _, h2.same s3⟩ upd_same
    · have q3 := q3 hc
      refine ⟨_, rfl, p, T.a_Proposer, dx, _, rfl, ob2, T.K_Proposer, T.na_Proposer_state, (by show 9 < 1000; decide), ?_⟩
      rw [pf_Proposer_state]
      have ob3 : (upd G2 p (.ins T.a_Proposer dx (fl_Proposer (.int f.b) (.str "leading") (.int f.ix) (.int f.ct) (.int f.sn) (.int (mxI f.nx bs)) (.ref dP) (.ref dO) (.ref dV)))) p = some (.ins T.a_Proposer dx (fl_Proposer (.int f.b) (.str "leading") (.int f.ix) (.int f.ct) (.int f.sn) (.int (mxI f.nx bs)) (.ref dP) (.ref dO) (.ref dV))) := upd_same
      have k3 : Fr [p] G2 (upd G2 p (.ins T.a_Proposer dx (fl_Proposer (.int f.b) (.str "leading") (.int f.ix) (.int f.ct) (.int f.sn) (.int (mxI f.nx bs)) (.ref dP) (.ref dO) (.ref dV)))) := (Fr.refl [p] G2).up (List.mem_singleton.mpr rfl)
      change tSeq _ _ _ _ (upd G2 p (.ins T.a_Proposer dx (fl_Proposer (.int f.b) (.str "leading") (.int f.ix) (.int f.ct) (.int f.sn) (.int (mxI f.nx bs)) (.ref dP) (.ref dO) (.ref dV))))
      generalize upd G2 p (.ins T.a_Proposer dx (fl_Proposer (.int f.b) (.str "leading") (.int f.ix) (.int f.ct) (.int f.sn) (.int (mxI f.nx bs)) (.ref dP) (.ref dO) (.ref dV))) = G3 at ob3 k3
      have h3 := h2.set (g := { promF f bs with st := "leading" }) k3 ⟨dx, ob3⟩
      have fp3 := fp2.trans (FP.fr ob2 k3)
      have hfm : (ps ++ [(i, rs)]).flatMap (·.2) = ps.flatMap (·.2) ++ rs := by rw [List.flatMap_append, List.flatMap_cons, List.flatMap_nil, List.append_nil]
      have hnx : f.nx ≤ mxI f.nx bs := by unfold mxI; split <;> omega
      refine ⟨_, rfl, p, dx, _, rfl, ob3, fl_Proposer_no__open_accepted, p, _, ps ++ [(i, rs)], rfl, ⟨_, _, _, _, h3⟩, rfl, ?_, by rw [hfm]; exact hlen, fun r hr => ?_, Int.le_trans hn0 hnx, fun H4 fp4 h4 => ?_⟩
      · rw [List.map_append]
        refine List.nodup_append.mpr ⟨ndp, by simp, fun x hx y hy e => ?_⟩
        rw [List.map_cons, List.map_nil, List.mem_singleton] at hy
        rw [e, hy] at hx
        exact hi hx
      · rw [hfm] at hr
        exact ⟨(hrg r hr).1, (hrg r hr).2.1⟩
      · rw [hfm] at h4
        obtain ⟨dP4, dO4, dV4, dvs4, h4'⟩ := id h4
        obtain ⟨dx4, ob4⟩ := h4'.ob
        have htop : topR (ps.flatMap (·.2) ++ rs) ≤ f.nx + 4 := by
          obtain ⟨_, _, z | ⟨r, hr, e⟩⟩ := top_from (ps.flatMap (·.2) ++ rs) (-1)
          · exact Int.le_trans (Int.le_of_eq z) (by omega)
          · exact Int.le_trans (Int.le_of_eq e.symm) (hrg r hr).2.2
        refine ⟨_, rfl, p, dx4, _, rfl, ob4, fl_Proposer_no_open_proposals, p, _, _, _, rfl, h4, ?_, opened_lt _ _ _, fun l ys H5 s5 e5 d5 => ?_⟩
        · rw [opened_len]
          show (topR _ + 1 - mxI f.nx bs).toNat < 64
          omega
        · exact q3 l ys H5 ((fp3.trans fp4).trans (FP.same s5)) (h4.same s5) e5 d5
end
theorem putF_le {f : Str} {v : V} {fs : List (Str × V)} {n : Nat} (h : fs.length ≤ n) : (putF f v fs).length ≤ n + 1 := by
  induction fs generalizing n with
  | nil => simp [putF]
  | cons p r ih =>
    unfold putF
    split
    · simp only [List.length_cons] at h ⊢
      omega
    · simp only [List.length_cons] at h ⊢
      have := ih (n := n - 1) (by omega)
      omega
theorem putF_lt {fs : List (Str × V)} {n : Nat} (h : fs.length ≤ n) (g : n < 1000) : fs.length < 1000 := by omega
def addV (is : List Int) (i : Int) : List Int := if i ∈ is then is else is ++ [i]
def voteE (es : List PEnt) (s i : Int) : List PEnt := es.map fun e => if e.1 = s then (e.1, e.2.1, addV e.2.2 i) else e
def dropE (es : List PEnt) (s : Int) : List PEnt := es.filter fun e => decide (e.1 ≠ s)
theorem voK_any (is : List Int) (i : Int) : ((voK is).any fun kv => decide (kv.1 = (Sum.inl i : Key))) = decide (i ∈ is) := by
  induction is with
  | nil => rfl
  | cons j is ih =>
    unfold voK at ih ⊢
    rw [List.map_cons, List.any_cons, ih, Bool.eq_iff_iff, Bool.or_eq_true, decide_eq_true_iff, decide_eq_true_iff, decide_eq_true_iff, List.mem_cons]
    exact ⟨fun z => z.elim (fun q => .inl (Sum.inl.inj q).symm) .inr, fun z => z.elim (fun q => .inl (by rw [q])) .inr⟩
theorem voK_put (is : List Int) (i : Int) : putK (voK is) (.inl i) (.bl true) = voK (addV is i) := by
  unfold putK addV
  rw [voK_any]
  by_cases h : i ∈ is
  · rw [if_pos (decide_eq_true h), if_pos h]
    unfold voK
    rw [List.map_map]
    refine List.map_congr_left fun j _ => ?_
    show (if _ then _ else _) = _
    split <;> rfl
  · rw [if_neg (by rw [decide_eq_false h]; exact Bool.false_ne_true), if_neg h]
    unfold voK
    rw [List.map_append]
    rfl
section
variable {K : PySem.W.Frag} {H : Hp}
theorem op_drop (s : Int) : ∀ {kvs : List (Key × V)} {es : List PEnt}, OpAt K H kvs es → OpAt K H (dropK kvs (.inl s)) (dropE es s)
  | [], [], _ => trivial
  | (k, v) :: kvs, e :: es, ⟨a, b, c⟩ => by
    have ih := op_drop s c
    unfold dropK dropE at ih ⊢
    by_cases h : e.1 = s
    · rw [List.filter_cons_of_neg (by simp [a, h]), List.filter_cons_of_neg (by simp [h])]
      exact ih
    · rw [List.filter_cons_of_pos (by simp [a, h]), List.filter_cons_of_pos (by simp [h])]
      exact ⟨a, b, ih⟩
theorem vo_drop (s : Int) : ∀ {kvs : List (Key × V)} {ds : List Addr} {es : List PEnt}, VoAt H kvs ds es → ∃ ds', ds'.Sublist ds ∧ VoAt H (dropK kvs (.inl s)) ds' (dropE es s)
  | [], [], [], _ => ⟨[], List.Sublist.refl _, trivial⟩
  | (k, v) :: kvs, d :: ds, e :: es, ⟨a, b, b2, c⟩ => by
    obtain ⟨ds', h1, ih⟩ := vo_drop s c
    unfold dropK dropE at ih ⊢
    by_cases h : e.1 = s
    · rw [List.filter_cons_of_neg (by simp [a, h]), List.filter_cons_of_neg (by simp [h])]
      exact ⟨ds', h1.cons _, ih⟩
    · rw [List.filter_cons_of_pos (by simp [a, h]), List.filter_cons_of_pos (by simp [h])]
      exact ⟨d :: ds', h1.cons₂ _, a, b, b2, ih⟩
theorem voteE_no {s i : Int} : ∀ {es : List PEnt}, s ∉ es.map (·.1) → voteE es s i = es
  | [], _ => rfl
  | e :: es, h => by
    simp only [List.map_cons, List.mem_cons, not_or] at h
    show (if e.1 = s then _ else e) :: voteE es s i = e :: es
    rw [if_neg (Ne.symm h.1), voteE_no h.2]
theorem vo_vote {s i : Int} : ∀ {kvs : List (Key × V)} {ds : List Addr} {es : List PEnt}, VoAt H kvs ds es → ds.Nodup → (es.map (·.1)).Nodup → ∀ e ∈ es, e.1 = s →
    ∃ d, d ∈ ds ∧ valV kvs (.inl s) = some (.ref d) ∧ H d = some (.dK (voK e.2.2)) ∧ ∀ G : Hp, (∀ x ∈ ds, x ≠ d → ∀ o, H x = some o → G x = some o) → G d = some (.dK (voK (addV e.2.2 i))) → VoAt G kvs ds (voteE es s i)
  | [], [], [], _, _, _, _, h, _ => by cases h
  | (k, v) :: kvs, d :: ds, e' :: es, ⟨a, b, b2, c⟩, nd, ne, e, he, hs => by
    have nd2 := List.nodup_cons.mp nd
    have ne2 := List.nodup_cons.mp ne
    rcases List.mem_cons.mp he with z | z
    · subst z
      refine ⟨d, List.mem_cons_self, ?_, b2, fun G k1 k2 => ?_⟩
      · rw [valV_pos (show (k, v).1 = _ by rw [← hs]; exact a), b]
      · show VoAt G _ _ ((if e.1 = s then _ else e) :: voteE es s i)
        rw [if_pos hs, voteE_no (by rw [← hs]; exact ne2.1)]
        exact ⟨a, b, k2, vo_fr (fun x hx o q => k1 x (List.mem_cons_of_mem _ hx) (fun y => nd2.1 (by rw [← y]; exact hx)) o q) c⟩
    · have hne : e'.1 ≠ s := fun q => ne2.1 (by
        show e'.1 ∈ _
        rw [q, ← hs]
        exact List.mem_map.mpr ⟨e, z, rfl⟩)
      obtain ⟨d', h1, h2, h3, h4⟩ := vo_vote (s := s) (i := i) c nd2.2 ne2.2 e z hs
      refine ⟨d', List.mem_cons_of_mem _ h1, ?_, h3, fun G k1 k2 => ?_⟩
      · rw [valV_neg (show ¬ (k, v).1 = _ by show ¬ k = _; rw [a]; exact fun q => hne (Sum.inl.inj q))]
        exact h2
      · show VoAt G _ _ ((if e'.1 = s then _ else e') :: voteE es s i)
        rw [if_neg hne]
        exact ⟨a, b, k1 d List.mem_cons_self (fun q => nd2.1 (by rw [q]; exact h1)) _ b2, h4 G (fun x hx => k1 x (List.mem_cons_of_mem _ hx)) k2⟩
theorem op_vote {s i : Int} : ∀ {kvs : List (Key × V)} {es : List PEnt}, OpAt K H kvs es → OpAt K H kvs (voteE es s i)
  | [], [], _ => trivial
  | (k, v) :: kvs, e :: es, ⟨a, b, c⟩ => by
    show OpAt K H _ ((if e.1 = s then _ else e) :: voteE es s i)
    split
    · exact ⟨a, b, op_vote c⟩
    · exact ⟨a, b, op_vote c⟩
theorem op_val {s : Int} {kvs : List (Key × V)} {es : List PEnt} (h : OpAt K H kvs es) : (valV kvs (.inl s)).isSome = decide (s ∈ es.map (·.1)) := by
  rw [← valV_any, Bool.eq_iff_iff, decide_eq_true_iff, List.any_eq_true]
  have e := op_keys h
  constructor
  · rintro ⟨kv, hm, q⟩
    have h1 : kv.1 ∈ eKeys es := by rw [← e]; exact List.mem_map.mpr ⟨kv, hm, rfl⟩
    obtain ⟨x, hx, h2⟩ := List.mem_map.mp h1
    exact List.mem_map.mpr ⟨x, hx, Sum.inl.inj (h2.trans (of_decide_eq_true q))⟩
  · intro q
    obtain ⟨x, hx, h2⟩ := List.mem_map.mp q
    have h1 : (Sum.inl s : Key) ∈ kvs.map (·.1) := by rw [e]; exact List.mem_map.mpr ⟨x, hx, by rw [h2]⟩
    obtain ⟨kv, hm, h3⟩ := List.mem_map.mp h1
    exact ⟨kv, hm, decide_eq_true h3⟩
end
theorem voteE_keys (es : List PEnt) (s i : Int) : (voteE es s i).map (·.1) = es.map (·.1) := by
  unfold voteE
  rw [List.map_map]
  refine List.map_congr_left fun e _ => ?_
  show (if e.1 = s then _ else e).1 = _
  split <;> rfl
theorem dropE_vote (es : List PEnt) (s i : Int) : dropE (voteE es s i) s = dropE es s := by
  induction es with
  | nil => rfl
  | cons e es ih =>
    unfold dropE voteE at ih ⊢
    by_cases h : e.1 = s
    · rw [List.map_cons, if_pos h, List.filter_cons_of_neg (by simp [h]), List.filter_cons_of_neg (by simp [h]), ih]
    · rw [List.map_cons, if_neg h, List.filter_cons_of_pos (by simp [h]), List.filter_cons_of_pos (by simp [h]), ih]
def sp_accd (C : Addr) (K : PySem.W.Frag) : Sp := fun vs H Q _ => ∃ (p : Addr) (f : PF) (ps : List (Int × List PRow)) (es : List PEnt) (i b s : Int), vs = [.ref p, .int i, .int b, .int s] ∧ Pr C K H p f ps es ∧ (es.map (·.1)).Nodup ∧ (∀ e ∈ es, e.2.2.length ≤ 100) ∧
  ((f.st ≠ "leading" ∨ b ≠ f.b ∨ s ∉ es.map (·.1)) → Q .non H) ∧
  (¬ (f.st ≠ "leading" ∨ b ≠ f.b ∨ s ∉ es.map (·.1)) → ∀ e ∈ es, e.1 = s → (((addV e.2.2 i).length : Int) < f.ct / 2 + 1 → ∀ H', FP H H' → Pr C K H' p f ps (voteE es s i) → Q .non H') ∧
    (¬ ((addV e.2.2 i).length : Int) < f.ct / 2 + 1 → ∀ (v : V) (H' : Hp), FP H H' → Pr C K H' p f ps (dropE es s) → PVA K H' v e.2.1 → Q v H'))
section
variable {P : Program} {w : World} {K : PySem.W.Frag} {mg : Str → Option Value} {base : Heap}
theorem ok_Proposer_hear_accepted (T : TX K mg) : FnOk P w K mg base CX0 2 T.a_Proposer_hear_accepted T.d_Proposer_hear_accepted ["self", "index", "ballot", "slot"] (sp_accd T.a_Proposer K) := by
  refine T.F_Proposer_hear_accepted.ok sc_Proposer_hear_accepted (fun vs H Q E h => ?_) (fun cdv A outer s H vs Q E hr h => ?_)
  · obtain ⟨p, f, ps, es, i, b, s, rfl, _⟩ := h
    rfl
  · obtain ⟨p, f, ps, es, i, b, sl, rfl, ⟨dP, dO, dV, dvs, h⟩, hnd, hvl, q1, q2⟩ := h
    refine ⟨_, (pss_cons (ps_if (PW.pt (pw_or (pt_cmpR op_ne (pe_fld (pv 0) rfl) (pe_glob (v := .str "leading") (by rfl) T.c_LEADING ⟨_, rfl⟩) (nomark _)) (pw_or (pt_cmpR op_ne (pv 2) (pe_fld (pv 0) rfl) (nomark _)) (pw_or1 (pt_cmp (pc_dnotin (hu_of hr) (pv 3) (pe_fld (pv 0) rfl))))))) (pss_one (ps_ret pe_non)) pss_nil)
      (pss_cons (ps_dput (hu_of hr) (pe_dget (hu_of hr) (pe_fld (pv 0) rfl) (pv 3) (fun _ _ => rfl)) (pv 1) pe_bl rfl)
      (pss_cons (ps_if (pt_cmpR op_lt (pe_callB call_lenD (by rfl) T.n_len PySem.boot_len (pa_cons (pe_dget (hu_of hr) (pe_fld (pv 0) rfl) (pv 3) (fun _ _ => rfl)) pa_nil)) (pe_call (ok_majority T) (hr.mono (by decide)) (by rfl) T.g_majority T.F_majority.kp T.b_majority .nil pass0 (pa_cons (pe_fld (pv 0) rfl) pa_nil)) (nomark _)) (pss_one (ps_ret pe_non)) pss_nil)
      (pss_cons (ps_ddel (pe_fld (pv 0) rfl) (pv 3))
      (pss_one (ps_ret (pe_dpop1 (pe_fld (pv 0) rfl) (pv 3) ⟨rfl, rfl, rfl, rfl⟩))))))), ?_⟩
    obtain ⟨⟨dx, ob⟩, ⟨kP, eP, aP⟩, ⟨kO, eO, aO⟩, ⟨kV, eV, aV⟩, nd⟩ := id h
    unfold pfl at ob
    refine ⟨_, rfl, p, _, dx, _, _, rfl, ob, T.K_Proposer, T.na_Proposer_state, fl_Proposer_state, rfl, _, rfl, ?_⟩
    refine ifb2 (fun hc => ifbt rfl (q1 (.inl fun z => by rw [z] at hc; revert hc; decide +kernel))) fun hc => ?_
    have hst : f.st = "leading" := Decidable.byContradiction fun z => by
      rw [decide_eq_false (fun y => z (V.str.inj y))] at hc
      cases hc
    refine ⟨_, rfl, _, rfl, p, _, dx, _, _, rfl, ob, T.K_Proposer, T.na_Proposer_ballot, fl_Proposer_ballot, rfl, _, rfl, ?_⟩
    refine ifb2 (fun hc2 => ifbt rfl (q1 (.inr (.inl fun z => by rw [z] at hc2; simp at hc2)))) fun hc2 => ?_
    have hb : b = f.b := Decidable.byContradiction fun z => by
      rw [decide_eq_false (fun y => z (V.int.inj y))] at hc2
      cases hc2
    refine ⟨_, rfl, _, rfl, p, _, dx, _, _, rfl, ob, T.K_Proposer, T.na_Proposer__proposals, fl_Proposer__proposals, dO, _, rfl, DGet.k (k := Sum.inl sl) eO, _, rfl, ?_⟩
    rw [op_val aO]
    refine ifb2 (fun hc3 => q1 (.inr (.inr fun z => by rw [decide_eq_true z] at hc3; cases hc3))) fun hc3 => ?_
    have hin : sl ∈ es.map (·.1) := Decidable.byContradiction fun z => by
      rw [decide_eq_false z] at hc3
      cases hc3
    have hnot : ¬ (f.st ≠ "leading" ∨ b ≠ f.b ∨ sl ∉ es.map (·.1)) := fun z => z.elim (fun q => q hst) fun z => z.elim (fun q => q hb) fun q => q hin
    obtain ⟨e, he, hs⟩ := List.mem_map.mp hin
    obtain ⟨q2, q3⟩ := q2 hnot e he hs
    have nds := nd
    simp only [List.nodup_cons, List.mem_cons, not_or] at nds
    obtain ⟨⟨nPO, nPV, mP⟩, ⟨nOV, mO⟩, mV, ndd⟩ := nds
    obtain ⟨dv, hd1, hd2, hd3, hd4⟩ := vo_vote (s := sl) (i := i) aV ndd hnd e he hs
    refine ⟨_, rfl, p, _, dx, _, _, rfl, ob, T.K_Proposer, T.na_Proposer__voters, fl_Proposer__voters, _, rfl, dV, .ref dv, rfl, by rw [← hd2]; exact DGet.k (k := Sum.inl sl) eV, _, rfl, dv, _, rfl, DPut.k (k := Sum.inl i) hd3 (szl (by have := hvl e he; unfold voK; rw [List.length_map]; omega)), ?_⟩
    rw [voK_put]
    have nvp : dv ≠ p := fun z => by rw [z, ob] at hd3; cases hd3
    have nvP : dv ≠ dP := fun z => mP (by rw [← z]; exact hd1)
    have nvO : dv ≠ dO := fun z => mO (by rw [← z]; exact hd1)
    have nvV : dv ≠ dV := fun z => mV (by rw [← z]; exact hd1)
    have fp1 : FP H (upd H dv (.dK (voK (addV e.2.2 i)))) := FP.up hd3 (voK_int _)
    have h1 : PW T.a_Proposer K (upd H dv (.dK (voK (addV e.2.2 i)))) p f ps (voteE es sl i) dP dO dV dvs := by
      refine ⟨⟨dx, by rw [upd_ne nvp.symm]; exact ob⟩, ⟨kP, by rw [upd_ne nvP.symm]; exact eP, ps_tk fp1.tk aP⟩, ⟨kO, by rw [upd_ne nvO.symm]; exact eO, op_vote (op_tk fp1.tk aO)⟩, ⟨kV, by rw [upd_ne nvV.symm]; exact eV, hd4 _ (fun x hx n o q => by rw [upd_ne n]; exact q) upd_same⟩, nd⟩
    have ob1 : (upd H dv (.dK (voK (addV e.2.2 i)))) p = some (.ins T.a_Proposer dx (fl_Proposer (.int f.b) (.str f.st) (.int f.ix) (.int f.ct) (.int f.sn) (.int f.nx) (.ref dP) (.ref dO) (.ref dV))) := by rw [upd_ne nvp.symm]; exact ob
    have ev1 : (upd H dv (.dK (voK (addV e.2.2 i)))) dv = some (.dK (voK (addV e.2.2 i))) := upd_same
    have eV1 : (upd H dv (.dK (voK (addV e.2.2 i)))) dV = some (.dK kV) := by rw [upd_ne nvV.symm]; exact eV
    have eO1 : (upd H dv (.dK (voK (addV e.2.2 i)))) dO = some (.dK kO) := by rw [upd_ne nvO.symm]; exact eO
    have aO1 := op_tk fp1.tk aO
    generalize upd H dv (.dK (voK (addV e.2.2 i))) = G at fp1 h1 ob1 ev1 eV1 eO1 aO1
    have hln : ((voK (addV e.2.2 i)).length : Int) = ((addV e.2.2 i).length : Int) := by unfold voK; rw [List.length_map]
    refine ⟨_, rfl, p, _, dx, _, _, rfl, ob1, T.K_Proposer, T.na_Proposer__voters, fl_Proposer__voters, _, rfl, dV, .ref dv, rfl, by rw [← hd2]; exact DGet.k (k := Sum.inl sl) eV1, dv, _, rfl, ev1, _, rfl, p, _, dx, _, _, rfl, ob1, T.K_Proposer, T.na_Proposer__count, fl_Proposer__count, _, rfl, _, _, rfl, rfl, _, rfl, ?_⟩
    rw [hln]
    refine ifd (fun hc => q2 hc G fp1 ⟨_, _, _, _, h1⟩) fun hc => ?_
    have q3 := q3 hc
    have nVp : dV ≠ p := fun z => by rw [z, ob1] at eV1; cases eV1
    have nOp : dO ≠ p := fun z => by rw [z, ob1] at eO1; cases eO1
    obtain ⟨dx1, _⟩ := id h1.ob
    obtain ⟨_, ⟨kP1, eP1, aP1⟩, ⟨kO1, eO1', aOv⟩, ⟨kV1, eV1', aV1⟩, _⟩ := h1
    rw [eO1] at eO1'
    cases eO1'
    rw [eV1] at eV1'
    cases eV1'
    refine ⟨_, rfl, p, _, dx, _, _, rfl, ob1, T.K_Proposer, T.na_Proposer__voters, fl_Proposer__voters, _, rfl, dV, kV, .inl sl, rfl, eV1, rfl, by rw [hd2]; rfl, ?_⟩
    obtain ⟨v, hv1, hv2⟩ := op_at aO1 hnd e he
    rw [hs] at hv1
    have eO2 : (upd G dV (.dK (dropK kV (.inl sl)))) dO = some (.dK kO) := by rw [upd_ne nOV]; exact eO1
    have ob2 : (upd G dV (.dK (dropK kV (.inl sl)))) p = some (.ins T.a_Proposer dx (fl_Proposer (.int f.b) (.str f.st) (.int f.ix) (.int f.ct) (.int f.sn) (.int f.nx) (.ref dP) (.ref dO) (.ref dV))) := by rw [upd_ne nVp.symm]; exact ob1
    refine ⟨_, rfl, p, _, dx, _, _, rfl, ob2, T.K_Proposer, T.na_Proposer__proposals, fl_Proposer__proposals, dO, rfl, .inl ⟨kO, .inl eO2⟩, _, rfl, kO, .inl sl, v, eO2, rfl, hv1, ?_⟩
    have fpa := FP.up (u := .dK (dropK kV (.inl sl))) eV1 (vo_int aV1)
    have fpb := FP.up (u := .dK (dropK kO (.inl sl))) eO2 (op_int aO1)
    have fpc := fpa.trans fpb
    obtain ⟨ds', hsub, aV2⟩ := vo_drop sl aV1
    rw [dropE_vote] at aV2
    refine q3 v _ (fp1.trans fpc) ⟨dP, dO, dV, ds', ⟨dx, by rw [upd_ne nOp.symm]; exact ob2⟩, ⟨kP1, by rw [upd_ne nPO, upd_ne nPV]; exact eP1, ps_tk fpc.tk aP1⟩, ⟨_, upd_same, op_tk fpc.tk (op_drop sl aO1)⟩, ⟨_, by rw [upd_ne (Ne.symm nOV), upd_same], vo_fr (fun d hd o q => ?_) aV2⟩, nd.sublist ((hsub.cons₂ dV).cons₂ dO |>.cons₂ dP)⟩ (hv2.tk fpc.tk)
    have hd := hsub.subset hd
    rw [upd_ne (fun z => mO (by rw [← z]; exact hd)), upd_ne (fun z => mV (by rw [← z]; exact hd))]
    exact q
theorem ok_Proposer___init__ (T : TX K mg) : FnOk P w K mg base CX0 1 T.a_Proposer___init__ T.d_Proposer___init__ ["self", "index", "count"] (sp_init T.a_Proposer K) := by
  refine T.F_Proposer___init__.ok sc_Proposer___init__ (fun vs H Q E h => ?_) (fun cdv A outer s H vs Q E hr h => ?_)
  · obtain ⟨p, dx, i, n, rfl, _⟩ := h
    rfl
  · obtain ⟨p, dx, i, n, rfl, hp, q⟩ := h
    refine ⟨_, (pss_cons (ps_fld (pv 0) pe_int rfl)
      (pss_cons (ps_fld (pv 0) (pe_glob (v := .str "idle") (by rfl) T.c_IDLE ⟨_, rfl⟩) rfl)
      (pss_cons (ps_fld (pv 0) (pv 1) rfl)
      (pss_cons (ps_fld (pv 0) (pv 2) rfl)
      (pss_cons (ps_fld (pv 0) pe_int rfl)
      (pss_cons (ps_fld (pv 0) pe_int rfl)
      (pss_cons (ps_fld (pv 0) pe_dnewK rfl)
      (pss_cons (ps_fld (pv 0) pe_dnewK rfl)
      (pss_one (ps_fld (pv 0) pe_dnewK rfl)))))))))), ?_⟩
    refine ⟨_, rfl, p, T.a_Proposer, dx, _, rfl, hp, T.K_Proposer, T.na_Proposer_ballot, (by show 0 < 1000; decide), ?_⟩
    refine ⟨_, rfl, p, T.a_Proposer, dx, _, rfl, upd_same, T.K_Proposer, T.na_Proposer_state, putF_lt (putF_le (Nat.le_refl 0)) (by decide), ?_⟩
    refine ⟨_, rfl, _, rfl, p, T.a_Proposer, dx, _, rfl, upd_same, T.K_Proposer, T.na_Proposer__index, putF_lt (putF_le (putF_le (Nat.le_refl 0))) (by decide), ?_⟩
    refine ⟨_, rfl, _, rfl, p, T.a_Proposer, dx, _, rfl, upd_same, T.K_Proposer, T.na_Proposer__count, putF_lt (putF_le (putF_le (putF_le (Nat.le_refl 0)))) (by decide), ?_⟩
    refine ⟨_, rfl, p, T.a_Proposer, dx, _, rfl, upd_same, T.K_Proposer, T.na_Proposer__seen, putF_lt (putF_le (putF_le (putF_le (putF_le (Nat.le_refl 0))))) (by decide), ?_⟩
    refine ⟨_, rfl, p, T.a_Proposer, dx, _, rfl, upd_same, T.K_Proposer, T.na_Proposer__next_slot, putF_lt (putF_le (putF_le (putF_le (putF_le (putF_le (Nat.le_refl 0)))))) (by decide), ?_⟩
    rw [upd_upd, upd_upd, upd_upd, upd_upd, upd_upd]
    refine fun dP hdP => ⟨_, rfl, p, T.a_Proposer, dx, _, rfl, by rw [upd_ne (fun z => by rw [← z, upd_same] at hdP; cases hdP), upd_same], T.K_Proposer, T.na_Proposer__promises, putF_lt (putF_le (putF_le (putF_le (putF_le (putF_le (putF_le (Nat.le_refl 0))))))) (by decide), ?_⟩
    refine fun dO hdO => ⟨_, rfl, p, T.a_Proposer, dx, _, rfl, by rw [upd_ne (fun z => by rw [← z, upd_same] at hdO; cases hdO), upd_same], T.K_Proposer, T.na_Proposer__proposals, putF_lt (putF_le (putF_le (putF_le (putF_le (putF_le (putF_le (putF_le (Nat.le_refl 0)))))))) (by decide), ?_⟩
    refine fun dV hdV => ⟨_, rfl, p, T.a_Proposer, dx, _, rfl, by rw [upd_ne (fun z => by rw [← z, upd_same] at hdV; cases hdV), upd_same], T.K_Proposer, T.na_Proposer__voters, putF_lt (putF_le (putF_le (putF_le (putF_le (putF_le (putF_le (putF_le (putF_le (Nat.le_refl 0))))))))) (by decide), ?_⟩
    rw [fl_Proposer_new]
    have n1 : dP ≠ p := fun z => by rw [← z, upd_same] at hdP; cases hdP
    have n2 : dO ≠ p := fun z => by rw [← z, upd_same] at hdO; cases hdO
    have n3 : dV ≠ p := fun z => by rw [← z, upd_same] at hdV; cases hdV
    have f1 : H dP = none := by rw [upd_ne n1] at hdP; exact hdP
    have n4 : dP ≠ dO := fun z => by rw [← z, upd_ne n1, upd_same] at hdO; cases hdO
    have f2 : H dO = none := by rw [upd_ne n2, upd_ne n4.symm, upd_ne n2] at hdO; exact hdO
    have n5 : dO ≠ dV := fun z => by rw [← z, upd_ne n2, upd_same] at hdV; cases hdV
    have n6 : dP ≠ dV := fun z => by rw [← z, upd_ne n1, upd_ne n4, upd_ne n1, upd_same] at hdV; cases hdV
    have f3 : H dV = none := by rw [upd_ne n3, upd_ne n5.symm, upd_ne n3, upd_ne n6.symm, upd_ne n3] at hdV; exact hdV
    refine q _ ⟨dP, dO, dV, [], ⟨dx, upd_same⟩, ⟨[], ?_, trivial⟩, ⟨[], ?_, trivial⟩, ⟨[], ?_, trivial⟩, by simp [n4, n5, n6]⟩ fun x o hx n => ?_
    · rw [upd_ne n1, upd_ne n6, upd_ne n1, upd_ne n4, upd_ne n1, upd_same]
    · rw [upd_ne n2, upd_ne n5, upd_ne n2, upd_same]
    · rw [upd_ne n3, upd_same]
    · have n7 : x ≠ p := by simpa using n
      rw [upd_ne n7, upd_ne (ne_of_none hx f3), upd_ne n7, upd_ne (ne_of_none hx f2), upd_ne n7, upd_ne (ne_of_none hx f1), upd_ne n7]
      exact hx
end
/-! the draws of a script: some numbers from 0 to 999 -/
def Drawn (ds : List Int) : Prop := ∀ d ∈ ds, 0 ≤ d ∧ d < 1000
theorem drawn_app {ds es : List Int} (h : Drawn ds) (g : Drawn es) : Drawn (ds ++ es) := fun d hd => (List.mem_append.mp hd).elim (h d) (g d)
theorem drawn_one {d : Int} (h : 0 ≤ d) (g : d < 1000) : Drawn [d] := fun e he => by rw [List.mem_singleton] at he; subst he; exact ⟨h, g⟩
def sp_draws (K : PySem.W.Frag) : Sp := fun vs H Q _ => ∃ (a : Addr) (ns : List Int), vs = [.ref a] ∧ SqL K H a (ns.map V.int) ∧
  ∀ (p : Addr) (H' : Hp) (ds : List Int), H p = none → Same H H' → H' p = some (.lst (ds.map V.int)) → Drawn ds → ds.length ≤ 1260 → Q (.ref p) H'
section
variable {P : Program} {w : World} {K : PySem.W.Frag} {mg : Str → Option Value} {base : Heap}
theorem ok__law_draws (T : TX K mg) : FnOk P w K mg base CX0 1 T.a__law_draws T.d__law_draws ["script"] (sp_draws K) := by
  refine T.F__law_draws.ok sc__law_draws (fun vs H Q E h => ?_) (fun cdv A outer s H vs Q E hr h => ?_)
  · obtain ⟨a, ns, rfl, _⟩ := h
    rfl
  · obtain ⟨a, ns, rfl, hS, q⟩ := h
    refine ⟨_, (pss_cons (ps_set (i := 1) sc__law_draws.nd rfl (Or.inl rfl) (pe_lst pa_nil))
      (pss_cons (ps_for PassesOwn.never rfl (pi_range1 (by rfl) T.n_range (pa_cons (pe_callB (call_min2 rfl) (by rfl) T.n_min (by decide +kernel) (pa_cons (pe_callB call_len_seq (by rfl) T.n_len PySem.boot_len (pa_cons (pv 0) pa_nil)) (pa_cons pe_int pa_nil))) pa_nil)) (pg_name (i := 2) sc__law_draws.nd rfl (Or.inl rfl))
        (pss_cons (ps_set (i := 3) sc__law_draws.nd rfl (Or.inl rfl) (pe_callB call_abs (by rfl) T.n_abs (by decide +kernel) (pa_cons (pe_ix ix_list (pv 0) (pv 2) (fun _ _ => rfl)) pa_nil)))
        (pss_one (ps_if (pt_cmpR op_ge (pv 3) (pe_op op_pow pe_int pe_int) (nomark _)) (pss_one (ps_for PassesOwn.never rfl (pi_range1 (by rfl) T.n_range (pa_cons pe_int pa_nil)) (pg_name (i := 4) sc__law_draws.nd rfl (Or.inl rfl))
            (pss_one (ps_if (pt_cmpR op_gt (pv 3) pe_int (nomark _)) (pss_cons (ps_expr (pe_bm PySem.F.plainAttrs_list PySem.F.slot_list_append PySem.F.type_list_append mt_append (pv 1) (pa_cons (pe_op op_mod (pv 3) pe_int) pa_nil)))
              (pss_one (ps_set (i := 3) sc__law_draws.nd rfl (Or.inl rfl) (pe_op op_fdiv (pv 3) pe_int)))) pss_nil)))) (pss_cons (ps_set (i := 5) sc__law_draws.nd rfl (Or.inl rfl) (pe_op op_mod (pe_callTy call_int1 (by rfl) T.n_int (by decide +kernel) (pa_cons (pe_op op_add (pe_op op_add (pe_op op_mul (pe_ix ix_list (pv 0) (pv 2) (fun _ _ => rfl)) pe_int) (pe_op op_mul (pv 2) pe_int)) pe_int) pa_nil)) pe_int))
          (pss_one (ps_for PassesOwn.never rfl (pi_range1 (by rfl) T.n_range (pa_cons pe_int pa_nil)) (pg_name (i := 4) sc__law_draws.nd rfl (Or.inl rfl))
            (pss_cons (ps_set (i := 5) sc__law_draws.nd rfl (Or.inl rfl) (pe_op op_mod (pe_callTy call_int1 (by rfl) T.n_int (by decide +kernel) (pa_cons (pe_op op_add (pe_op op_add (pe_op op_mul (pv 5) (pv 5)) (pe_op op_mul (pv 4) pe_int)) pe_int) pa_nil)) pe_int))
            (pss_one (ps_expr (pe_bm PySem.F.plainAttrs_list PySem.F.slot_list_append PySem.F.type_list_append mt_append (pv 1) (pa_cons (pe_op op_mod (pv 5) pe_int) pa_nil))))))))))))
      (pss_one (ps_ret (pv 1))))), ?_⟩
    refine ⟨Nat.zero_le _, fun o ho => ?_⟩
    have s1 := same_upd (o := .lst []) ho
    have hml : (ns.map V.int).length = ns.length := List.length_map _
    refine ⟨_, rfl, a, _, rfl, .inl (s1.seq hS), _, _, rfl, ?_⟩
    obtain ⟨m, hm, hm63, hmn⟩ : ∃ m : Nat, (if (63 : Int) < ((ns.map V.int).length : Int) then (63 : Int) else ((ns.map V.int).length : Int)) = (m : Int) ∧ m ≤ 63 ∧ m ≤ ns.length := by
      rw [hml]
      refine ⟨min ns.length 63, ?_, by omega, by omega⟩
      split <;> omega
    refine ⟨(m : Int), by rw [← hm], by omega, by omega, for_range (lo := 0) (n := _) (fun i σ H2 => ∃ (ds : List Int) (x2 x3 x4 x5 : Option V), σ = [some (.ref a), some (.ref o), x2, x3, x4, x5] ∧ Same H H2 ∧ H2 o = some (.lst (ds.map V.int)) ∧ Drawn ds ∧ ds.length ≤ 20 * i)
      ⟨[], none, none, none, none, rfl, s1, upd_same, (fun _ h => by cases h), Nat.le_refl _⟩ ?_ ?_⟩
    · rintro i σ H2 hi ⟨ds, x2, x3, x4, x5, rfl, g1, g2, g3, g4⟩
      have him : i < m := by omega
      have hg : ns[i]? = some ns[i] := List.getElem?_eq_getElem (by omega)
      have ha : atI (ns.map V.int) (0 + (i : Int)) = some (.int ns[i]) := by rw [Int.zero_add]; exact at_map hg
      generalize ns[i] = c at ha
      refine ⟨_, rfl, _, rfl, a, _, _, _, rfl, rfl, g1.seq hS, ha, _, rfl, ?_⟩
      dsimp only
      have hc : 0 ≤ (if c < 0 then -c else c) := by split <;> omega
      generalize (if c < 0 then -c else c) = cell at hc
      refine ⟨_, rfl, _, _, rfl, rfl, ⟨by decide, by decide, by decide⟩, _, _, rfl, rfl, _, rfl, ifd (fun hb => ?_) (fun hb => ?_)⟩
      · refine ⟨20, rfl, by decide, by decide, for_range (lo := 0) (n := 20) (fun j σ H3 => ∃ (es : List Int) (cell : Int) (x4 : Option V), 0 ≤ cell ∧ σ = [some (.ref a), some (.ref o), some (.int (0 + (i : Int))), some (.int cell), x4, x5] ∧ Same H H3 ∧ H3 o = some (.lst (es.map V.int)) ∧ Drawn es ∧ es.length ≤ 20 * i + j)
          ⟨ds, cell, x4, hc, rfl, g1, g2, g3, g4⟩ ?_ ?_⟩
        · rintro j σ H3 hj ⟨es, cell, x4, h0, rfl, k1, k2, k3, k4⟩
          refine ⟨_, rfl, _, _, rfl, rfl, _, rfl, ifd (fun hb => ?_) (fun hb => ?_)⟩
          · refine ⟨_, rfl, .inl ⟨rfl, _, sql k2⟩, _, rfl, _, _, rfl, rfl, (by show (0 : Int) < _; decide), o, _, _, rfl, rfl, k2, szl (by rw [List.length_map]; omega), ?_⟩
            refine ⟨_, rfl, _, _, rfl, rfl, ⟨by decide, by decide⟩, ?_⟩
            refine ⟨es ++ [cell % 1000], cell / 1000, some (.int (0 + (j : Int))), Int.ediv_nonneg h0 (by decide), rfl, same_put k1 ho, ?_, drawn_app k3 (drawn_one (Int.emod_nonneg _ (by decide)) (Int.emod_lt_of_pos _ (by decide))), by rw [List.length_append]; simp only [List.length_cons, List.length_nil]; omega⟩
            rw [upd_same, List.map_append]
            rfl
          · exact ⟨es, cell, some (.int (0 + (j : Int))), h0, rfl, k1, k2, k3, by omega⟩
        · rintro σ H3 ⟨es, cell, x4, h0, rfl, k1, k2, k3, k4⟩
          exact ⟨es, _, _, _, _, rfl, k1, k2, k3, by omega⟩
      · refine ⟨_, rfl, _, rfl, a, _, _, _, rfl, rfl, g1.seq hS, ha, _, _, rfl, rfl, .inr ⟨by decide, by decide⟩, _, rfl, _, _, rfl, rfl, .inr ⟨by decide, by decide⟩, _, _, rfl, rfl, _, _, rfl, rfl, .inl ⟨_, rfl, _, _, rfl, rfl, (by show (0 : Int) < _; decide), ?_⟩⟩
        dsimp only
        have hx := And.intro (Int.emod_nonneg (c * 48271 + (0 + (i : Int)) * 69621 + 12345) (show (2147483647 : Int) ≠ 0 by decide)) (Int.emod_lt_of_pos (c * 48271 + (0 + (i : Int)) * 69621 + 12345) (show (0 : Int) < 2147483647 by decide))
        generalize (c * 48271 + (0 + (i : Int)) * 69621 + 12345) % 2147483647 = mx at hx
        refine ⟨3, rfl, by decide, by decide, for_range (lo := 0) (n := 3) (fun j σ H3 => ∃ (es : List Int) (mx : Int) (x4 : Option V), (0 ≤ mx ∧ mx < 2147483647) ∧ σ = [some (.ref a), some (.ref o), some (.int (0 + (i : Int))), some (.int cell), x4, some (.int mx)] ∧ Same H H3 ∧ H3 o = some (.lst (es.map V.int)) ∧ Drawn es ∧ es.length ≤ 20 * i + j)
          ⟨ds, mx, x4, hx, rfl, g1, g2, g3, g4⟩ ?_ ?_⟩
        · rintro j σ H3 hj ⟨es, mx, x4, h0, rfl, k1, k2, k3, k4⟩
          refine ⟨_, rfl, _, rfl, _, _, rfl, rfl, .inl ⟨by omega, by omega⟩, _, rfl, _, _, rfl, rfl, .inr ⟨by decide, by decide⟩, _, _, rfl, rfl, _, _, rfl, rfl, .inl ⟨_, rfl, _, _, rfl, rfl, (by show (0 : Int) < _; decide), ?_⟩⟩
          refine ⟨_, rfl, .inl ⟨rfl, _, sql k2⟩, _, rfl, _, _, rfl, rfl, (by show (0 : Int) < _; decide), o, _, _, rfl, rfl, k2, szl (by rw [List.length_map]; omega), ?_⟩
          have h2 := And.intro (Int.emod_nonneg (mx * mx + (0 + (j : Int)) * 7919 + 17) (show (2147483629 : Int) ≠ 0 by decide)) (Int.emod_lt_of_pos (mx * mx + (0 + (j : Int)) * 7919 + 17) (show (0 : Int) < 2147483629 by decide))
          refine ⟨es ++ [(mx * mx + (0 + (j : Int)) * 7919 + 17) % 2147483629 % 1000], (mx * mx + (0 + (j : Int)) * 7919 + 17) % 2147483629, some (.int (0 + (j : Int))), ⟨h2.1, by omega⟩, rfl, same_put k1 ho, ?_, drawn_app k3 (drawn_one (Int.emod_nonneg _ (by decide)) (Int.emod_lt_of_pos _ (by decide))), by rw [List.length_append]; simp only [List.length_cons, List.length_nil]; omega⟩
          rw [upd_same, List.map_append]
          rfl
        · rintro σ H3 ⟨es, mx, x4, h0, rfl, k1, k2, k3, k4⟩
          exact ⟨es, _, _, _, _, rfl, k1, k2, k3, by omega⟩
    · rintro σ H2 ⟨ds, x2, x3, x4, x5, rfl, g1, g2, g3, g4⟩
      exact ⟨_, rfl, q o _ ds ho g1 g2 g3 (by omega)⟩
end
/-! the law's own proposer -/
structure MC where
  ct : Int
  ix : Int
  b : Int
  sn : Int
  st : Str
  fi : Int
  fr : Int
  pa : Addr
  oa : Addr
def stK (c : MC) : List (Key × V) := [(.inr "count", .int c.ct), (.inr "index", .int c.ix), (.inr "ballot", .int c.b), (.inr "seen", .int c.sn), (.inr "state", .str c.st), (.inr "first", .int c.fi), (.inr "free", .int c.fr), (.inr "promises", .ref c.pa), (.inr "open", .ref c.oa)]
theorem stK_int (c : MC) : (stK c).all intK = false := rfl
section
variable {H : Hp} {m : Addr} {c : MC}
theorem gg_ct (e : H m = some (.dK (stK c))) : DGet H m (.str "count") (some (.int c.ct)) := DGet.k (k := .inr ("count" : Str)) e
theorem pp_ct (e : H m = some (.dK (stK c))) (x : Int) : DPut H m (.str "count") (.int x) (upd H m (.dK (stK { c with ct := x }))) := DPut.k (k := .inr ("count" : Str)) e (by show 9 < sizeLine; decide)
theorem gg_ix (e : H m = some (.dK (stK c))) : DGet H m (.str "index") (some (.int c.ix)) := DGet.k (k := .inr ("index" : Str)) e
theorem pp_ix (e : H m = some (.dK (stK c))) (x : Int) : DPut H m (.str "index") (.int x) (upd H m (.dK (stK { c with ix := x }))) := DPut.k (k := .inr ("index" : Str)) e (by show 9 < sizeLine; decide)
theorem gg_b (e : H m = some (.dK (stK c))) : DGet H m (.str "ballot") (some (.int c.b)) := DGet.k (k := .inr ("ballot" : Str)) e
theorem pp_b (e : H m = some (.dK (stK c))) (x : Int) : DPut H m (.str "ballot") (.int x) (upd H m (.dK (stK { c with b := x }))) := DPut.k (k := .inr ("ballot" : Str)) e (by show 9 < sizeLine; decide)
theorem gg_sn (e : H m = some (.dK (stK c))) : DGet H m (.str "seen") (some (.int c.sn)) := DGet.k (k := .inr ("seen" : Str)) e
theorem pp_sn (e : H m = some (.dK (stK c))) (x : Int) : DPut H m (.str "seen") (.int x) (upd H m (.dK (stK { c with sn := x }))) := DPut.k (k := .inr ("seen" : Str)) e (by show 9 < sizeLine; decide)
theorem gg_st (e : H m = some (.dK (stK c))) : DGet H m (.str "state") (some (.str c.st)) := DGet.k (k := .inr ("state" : Str)) e
theorem pp_st (e : H m = some (.dK (stK c))) (x : Str) : DPut H m (.str "state") (.str x) (upd H m (.dK (stK { c with st := x }))) := DPut.k (k := .inr ("state" : Str)) e (by show 9 < sizeLine; decide)
theorem gg_fi (e : H m = some (.dK (stK c))) : DGet H m (.str "first") (some (.int c.fi)) := DGet.k (k := .inr ("first" : Str)) e
theorem pp_fi (e : H m = some (.dK (stK c))) (x : Int) : DPut H m (.str "first") (.int x) (upd H m (.dK (stK { c with fi := x }))) := DPut.k (k := .inr ("first" : Str)) e (by show 9 < sizeLine; decide)
theorem gg_fr (e : H m = some (.dK (stK c))) : DGet H m (.str "free") (some (.int c.fr)) := DGet.k (k := .inr ("free" : Str)) e
theorem pp_fr (e : H m = some (.dK (stK c))) (x : Int) : DPut H m (.str "free") (.int x) (upd H m (.dK (stK { c with fr := x }))) := DPut.k (k := .inr ("free" : Str)) e (by show 9 < sizeLine; decide)
theorem gg_pa (e : H m = some (.dK (stK c))) : DGet H m (.str "promises") (some (.ref c.pa)) := DGet.k (k := .inr ("promises" : Str)) e
theorem pp_pa (e : H m = some (.dK (stK c))) (x : Addr) : DPut H m (.str "promises") (.ref x) (upd H m (.dK (stK { c with pa := x }))) := DPut.k (k := .inr ("promises" : Str)) e (by show 9 < sizeLine; decide)
theorem gg_oa (e : H m = some (.dK (stK c))) : DGet H m (.str "open") (some (.ref c.oa)) := DGet.k (k := .inr ("open" : Str)) e
theorem pp_oa (e : H m = some (.dK (stK c))) (x : Addr) : DPut H m (.str "open") (.ref x) (upd H m (.dK (stK { c with oa := x }))) := DPut.k (k := .inr ("open" : Str)) e (by show 9 < sizeLine; decide)
end
def sp_lsaw : Sp := fun vs H Q _ => ∃ (m : Addr) (c : MC) (x : Int), vs = [.ref m, .int x] ∧ H m = some (.dK (stK c)) ∧
  (¬ (x > c.b ∧ c.st ≠ "idle") → ∀ H', Fr [m] H H' → H' m = some (.dK (stK { c with sn := mxI c.sn x })) → Q (.bl false) H') ∧
  ((x > c.b ∧ c.st ≠ "idle") → ∀ (oa : Addr) (H' : Hp), Fr [m] H H' → H oa = none → H' oa = some (.lst []) → H' m = some (.dK (stK { c with sn := mxI c.sn x, st := "idle", oa := oa })) → Q (.bl true) H')
def upB (ct ix b : Int) : Int := if b % ct ≠ ix then b + 1 else b
def upN (ct ix b : Int) : Nat → Int
  | 0 => b
  | n + 1 => upB ct ix (upN ct ix b n)
def begB (c : MC) : Int := upN c.ct c.ix (mxI c.b c.sn + 1) 5
def sp_lbegin : Sp := fun vs H Q _ => ∃ (m : Addr) (c : MC) (x : Int), vs = [.ref m, .int x] ∧ H m = some (.dK (stK c)) ∧ 0 < c.ct ∧
  ∀ (pa oa : Addr) (H' : Hp), Fr [m] H H' → H pa = none → H oa = none → pa ≠ oa → H' pa = some (.lst []) → H' oa = some (.lst []) →
    H' m = some (.dK (stK { c with b := begB c, sn := begB c, st := "preparing", fi := x, pa := pa, oa := oa })) → Q (.int (begB c)) H'
theorem fr_none {L : List Addr} {H G : Hp} {x : Addr} (f : Fr L H G) (n : x ∉ L) (h : G x = none) : H x = none := by
  cases e : H x with
  | none => rfl
  | some o =>
    rw [f x o e n] at h
    cases h
section
variable {P : Program} {w : World} {K : PySem.W.Frag} {mg : Str → Option Value} {base : Heap}
theorem ok__law_saw (T : TX K mg) : FnOk P w K mg base CX0 1 T.a__law_saw T.d__law_saw ["model", "ballot"] sp_lsaw := by
  refine T.F__law_saw.ok sc__law_saw (fun vs H Q E h => ?_) (fun cdv A outer s H vs Q E hr h => ?_)
  · obtain ⟨m, c, x, rfl, _⟩ := h
    rfl
  · obtain ⟨m, c, x, rfl, hm, q1, q2⟩ := h
    refine ⟨_, (pss_cons (ps_dput (hu_of hr) (pv 0) pe_str (pe_callB (call_max2 rfl) (by rfl) T.n_max (by decide +kernel) (pa_cons (pe_dget (hu_of hr) (pv 0) pe_str (fun _ _ => rfl)) (pa_cons (pv 1) pa_nil))) rfl)
      (pss_cons (ps_if (PW.pt (pw_and (pt_cmpR op_gt (pv 1) (pe_dget (hu_of hr) (pv 0) pe_str (fun _ _ => rfl)) (nomark _)) (pw_and1 (pt_cmpR op_ne (pe_dget (hu_of hr) (pv 0) pe_str (fun _ _ => rfl)) pe_str (nomark _))))) (pss_cons (ps_dput (hu_of hr) (pv 0) pe_str pe_str rfl)
        (pss_cons (ps_dput (hu_of hr) (pv 0) pe_str (pe_lst pa_nil) rfl)
        (pss_one (ps_ret pe_bl)))) pss_nil)
      (pss_one (ps_ret pe_bl)))), ?_⟩
    refine ⟨_, rfl, m, _, rfl, gg_sn hm, _, rfl, _, _, rfl, ?_⟩
    refine ⟨_, rfl, m, _, rfl, pp_sn hm (mxI c.sn x), ?_⟩
    have f1 : Fr [m] H (upd H m (.dK (stK { c with sn := mxI c.sn x }))) := (Fr.refl _ _).up (by simp)
    have hm1 : (upd H m (.dK (stK { c with sn := mxI c.sn x }))) m = some (.dK (stK { c with sn := mxI c.sn x })) := upd_same
    change tSeq _ _ _ _ (upd H m (.dK (stK { c with sn := mxI c.sn x })))
    generalize upd H m (.dK (stK { c with sn := mxI c.sn x })) = G at f1 hm1
    refine ⟨_, rfl, _, rfl, m, _, rfl, gg_b hm1, _, _, rfl, rfl, _, rfl, ifd (fun hb => ?_) (fun hb => q1 (fun z => hb z.1) G f1 hm1)⟩
    refine ⟨_, rfl, m, _, rfl, gg_st hm1, rfl, _, rfl, ifb2 (fun hi => ?_) (fun hi => ?_)⟩
    · have hne : c.st ≠ "idle" := fun z => by
        rw [show V.str ({ c with sn := mxI c.sn x } : MC).st = V.str "idle" from congrArg V.str z] at hi
        revert hi
        decide +kernel
      refine ⟨_, rfl, m, _, rfl, pp_st hm1 "idle", Nat.zero_le _, fun oa ho => ⟨_, rfl, m, _, rfl, pp_oa (c := { c with sn := mxI c.sn x, st := "idle" }) ?_ oa, ?_⟩⟩
      · have n1 : oa ≠ m := fun z => by rw [z, upd_same] at ho; cases ho
        rw [upd_ne n1.symm, upd_same]
      · have n1 : oa ≠ m := fun z => by rw [z, upd_same] at ho; cases ho
        have g1 : G oa = none := by rw [upd_ne n1] at ho; exact ho
        refine q2 ⟨hb, hne⟩ oa _ (fun y o hy n => ?_) (fr_none f1 (by simpa using n1) g1) (by rw [upd_ne n1, upd_same]) upd_same
        have n2 : y ≠ m := by simpa using n
        have hy1 := f1 y o hy n
        rw [upd_ne n2, upd_ne (ne_of_none hy1 g1), upd_ne n2]
        exact hy1
    · refine q1 (fun z => z.2 ?_) G f1 hm1
      exact Decidable.byContradiction fun y => by
        rw [decide_eq_false (fun w => y (V.str.inj w))] at hi
        cases hi
theorem ok__law_begin (T : TX K mg) : FnOk P w K mg base CX0 1 T.a__law_begin T.d__law_begin ["model", "first"] sp_lbegin := by
  refine T.F__law_begin.ok sc__law_begin (fun vs H Q E h => ?_) (fun cdv A outer s H vs Q E hr h => ?_)
  · obtain ⟨m, c, x, rfl, _⟩ := h
    rfl
  · obtain ⟨m, c, x, rfl, hm, hc, q⟩ := h
    refine ⟨_, (pss_cons (ps_set (i := 2) sc__law_begin.nd rfl (Or.inl rfl) (pe_op op_add (pe_callB (call_max2 rfl) (by rfl) T.n_max (by decide +kernel) (pa_cons (pe_dget (hu_of hr) (pv 0) pe_str (fun _ _ => rfl)) (pa_cons (pe_dget (hu_of hr) (pv 0) pe_str (fun _ _ => rfl)) pa_nil))) pe_int))
      (pss_cons (ps_for PassesOwn.never rfl (pi_range1 (by rfl) T.n_range (pa_cons pe_int pa_nil)) (pg_name (i := 3) sc__law_begin.nd rfl (Or.inl rfl))
        (pss_one (ps_if (pt_cmpR op_ne (pe_op op_mod (pv 2) (pe_dget (hu_of hr) (pv 0) pe_str (fun _ _ => rfl))) (pe_dget (hu_of hr) (pv 0) pe_str (fun _ _ => rfl)) (nomark _)) (pss_one (ps_set (i := 2) sc__law_begin.nd rfl (Or.inl rfl) (pe_op op_add (pv 2) pe_int))) pss_nil)))
      (pss_cons (ps_dput (hu_of hr) (pv 0) pe_str (pv 2) rfl)
      (pss_cons (ps_dput (hu_of hr) (pv 0) pe_str (pv 2) rfl)
      (pss_cons (ps_dput (hu_of hr) (pv 0) pe_str pe_str rfl)
      (pss_cons (ps_dput (hu_of hr) (pv 0) pe_str (pv 1) rfl)
      (pss_cons (ps_dput (hu_of hr) (pv 0) pe_str (pe_lst pa_nil) rfl)
      (pss_cons (ps_dput (hu_of hr) (pv 0) pe_str (pe_lst pa_nil) rfl)
      (pss_one (ps_ret (pv 2))))))))))), ?_⟩
    refine ⟨_, rfl, m, _, rfl, gg_b hm, _, rfl, m, _, rfl, gg_sn hm, _, _, rfl, _, _, rfl, rfl, ?_⟩
    refine ⟨5, rfl, by decide, by decide, for_range (lo := 0) (n := 5) (fun i σ G => ∃ x3, σ = [some (.ref m), some (.int x), some (.int (upN c.ct c.ix (mxI c.b c.sn + 1) i)), x3] ∧ H = G) ⟨none, rfl, rfl⟩ ?_ ?_⟩
    · rintro i σ G hi ⟨x3, rfl, rfl⟩
      refine ⟨_, rfl, _, rfl, m, _, rfl, gg_ct hm, _, _, rfl, rfl, hc, _, rfl, m, _, rfl, gg_ix hm, rfl, _, rfl, ifb2 (fun hx => ?_) (fun hx => ?_)⟩
      · have hne : upN c.ct c.ix (mxI c.b c.sn + 1) i % c.ct ≠ c.ix := fun z => by
          rw [decide_eq_true (congrArg V.int z)] at hx
          cases hx
        refine ⟨_, rfl, _, _, rfl, rfl, some (.int (0 + (i : Int))), ?_, rfl⟩
        show _ = [some (V.ref m), some (V.int x), some (V.int (upB c.ct c.ix (upN c.ct c.ix (mxI c.b c.sn + 1) i))), _]
        unfold upB
        rw [if_pos hne]
        rfl
      · have he : ¬ upN c.ct c.ix (mxI c.b c.sn + 1) i % c.ct ≠ c.ix := fun z => by
          rw [decide_eq_false (fun y => z (V.int.inj y))] at hx
          cases hx
        refine ⟨some (.int (0 + (i : Int))), ?_, rfl⟩
        show _ = [some (V.ref m), some (V.int x), some (V.int (upB c.ct c.ix (upN c.ct c.ix (mxI c.b c.sn + 1) i))), _]
        unfold upB
        rw [if_neg he]
        rfl
    · rintro σ G ⟨x3, rfl, rfl⟩
      refine ⟨_, rfl, _, rfl, m, _, rfl, pp_b hm (begB c), _, rfl, _, rfl, m, _, rfl, pp_sn (c := { c with b := begB c }) upd_same (begB c), _, rfl, m, _, rfl, pp_st (c := { c with b := begB c, sn := begB c }) upd_same "preparing", _, rfl, _, rfl, m, _, rfl, pp_fi (c := { c with b := begB c, sn := begB c, st := "preparing" }) upd_same x, ?_⟩
      rw [upd_upd, upd_upd, upd_upd]
      refine ⟨Nat.zero_le _, fun pa hpa => ?_⟩
      have n1 : pa ≠ m := fun z => by rw [z, upd_same] at hpa; cases hpa
      have f1 : H pa = none := by rw [upd_ne n1] at hpa; exact hpa
      refine ⟨_, rfl, m, _, rfl, pp_pa (c := { c with b := begB c, sn := begB c, st := "preparing", fi := x }) (by rw [upd_ne n1.symm, upd_same]) pa, Nat.zero_le _, fun oa hoa => ?_⟩
      have n2 : oa ≠ m := fun z => by rw [z, upd_same] at hoa; cases hoa
      have n3 : pa ≠ oa := fun z => by rw [← z, upd_ne n1, upd_same] at hoa; cases hoa
      have f2 : H oa = none := by rw [upd_ne n2, upd_ne n3.symm, upd_ne n2] at hoa; exact hoa
      refine ⟨_, rfl, m, _, rfl, pp_oa (c := { c with b := begB c, sn := begB c, st := "preparing", fi := x, pa := pa }) (by rw [upd_ne n2.symm, upd_same]) oa, ?_⟩
      refine ⟨_, rfl, q pa oa _ (fun y o hy n => ?_) f1 f2 n3 ?_ ?_ upd_same⟩
      · have n4 : y ≠ m := by simpa using n
        rw [upd_ne n4, upd_ne (ne_of_none hy f2), upd_ne n4, upd_ne (ne_of_none hy f1), upd_ne n4]
        exact hy
      · rw [upd_ne n1, upd_ne n3, upd_ne n1, upd_same]
      · rw [upd_ne n2, upd_same]
end
def MPs (K : PySem.W.Frag) (H : Hp) : List V → List (Int × List PRow) → Prop
  | [], [] => True
  | x :: xs, (i, rs) :: ps => (∃ u t ys, x = .ref u ∧ StT K H u [.int i, .ref t] ∧ StT K H t ys ∧ RowsIs K H ys rs) ∧ MPs K H xs ps
  | _, _ => False
theorem mps_tk {K : PySem.W.Frag} {H H' : Hp} (k : TK H H') : ∀ {xs : List V} {ps : List (Int × List PRow)}, MPs K H xs ps → MPs K H' xs ps
  | [], [], _ => trivial
  | _ :: _, (_, _) :: _, ⟨⟨u, t, ys, a, b, c, d⟩, r⟩ => ⟨⟨u, t, ys, a, b.tk k, c.tk k, rows_tk k d⟩, mps_tk k r⟩
theorem mps_len {K : PySem.W.Frag} {H : Hp} : ∀ {xs : List V} {ps : List (Int × List PRow)}, MPs K H xs ps → xs.length = ps.length
  | [], [], _ => rfl
  | _ :: _, (_, _) :: _, ⟨_, r⟩ => congrArg (· + 1) (mps_len r)
theorem mps_at {K : PySem.W.Frag} {H : Hp} : ∀ {xs : List V} {ps : List (Int × List PRow)} {i : Nat} {x : V}, MPs K H xs ps → xs[i]? = some x → ∃ q u t ys, ps[i]? = some q ∧ x = .ref u ∧ StT K H u [.int q.1, .ref t] ∧ StT K H t ys ∧ RowsIs K H ys q.2
  | [], [], i, _, _, h => by simp at h
  | _ :: _, (j, rs) :: _, 0, x, ⟨⟨u, t, ys, a, b⟩, _⟩, h => by
    simp only [List.getElem?_cons_zero, Option.some.injEq] at h
    subst h
    exact ⟨(j, rs), u, t, ys, rfl, a, b⟩
  | _ :: _, (_, _) :: _, i + 1, x, ⟨_, r⟩, h => by
    obtain ⟨q, u, t, ys, h1, h2⟩ := mps_at (i := i) r (by simpa using h)
    exact ⟨q, u, t, ys, by simpa using h1, h2⟩
theorem mps_app {K : PySem.W.Frag} {H : Hp} {i : Int} {u t : Addr} {ys : List V} {rs : List PRow} (a : StT K H u [.int i, .ref t]) (b : StT K H t ys) (c : RowsIs K H ys rs) : ∀ {xs : List V} {ps : List (Int × List PRow)}, MPs K H xs ps → MPs K H (xs ++ [.ref u]) (ps ++ [(i, rs)])
  | [], [], _ => ⟨⟨u, t, ys, rfl, a, b, c⟩, trivial⟩
  | _ :: _, (_, _) :: _, ⟨h, r⟩ => ⟨h, mps_app a b c r⟩
theorem rowsOf_app (rows : List PRow) (r : PRow) (s : Int) : rowsOf (rows ++ [r]) s = if r.1 = s then rowsOf rows s ++ [r.2] else rowsOf rows s := by
  unfold rowsOf
  rw [List.filter_append, List.map_append]
  by_cases h : r.1 = s
  · rw [if_pos h, List.filter_cons_of_pos (by simp [h])]
    rfl
  · rw [if_neg h, List.filter_cons_of_neg (by simp [h])]
    exact List.append_nil _
theorem bestO_app (ds : List (Int × PVal)) (p : Int × PVal) : bestO (ds ++ [p]) = btr (bestO ds) p := by
  unfold bestO
  rw [List.foldl_append]
  rfl
def sp_lvalue (K : PySem.W.Frag) : Sp := fun vs H Q _ => ∃ (a : Addr) (s : Int) (xs : List V) (ps : List (Int × List PRow)), vs = [.ref a, .int s] ∧ H a = some (.lst xs) ∧ MPs K H xs ps ∧
  ∀ (v : V) (H' : Hp), Same H H' → PVA K H' v (bestO (rowsOf (ps.flatMap (·.2)) s)).2 → Q v H'
section
variable {P : Program} {w : World} {K : PySem.W.Frag} {mg : Str → Option Value} {base : Heap}
theorem ok__law_value (T : TX K mg) : FnOk P w K mg base CX0 1 T.a__law_value T.d__law_value ["promises", "slot"] (sp_lvalue K) := by
  refine T.F__law_value.ok sc__law_value (fun vs H Q E h => ?_) (fun cdv A outer s H vs Q E hr h => ?_)
  · obtain ⟨a, s, xs, ps, rfl, _⟩ := h
    rfl
  · obtain ⟨a, sl, xs, ps, rfl, ha, hps, q⟩ := h
    refine ⟨_, (pss_cons (ps_set (i := 2) sc__law_value.nd rfl (Or.inl rfl) (pe_un un_neg pe_int))
      (pss_cons (ps_set (i := 3) sc__law_value.nd rfl (Or.inl rfl) (pe_tup (pa_cons pe_str pa_nil)))
      (pss_cons (ps_for PassesOwn.never rfl (pi_list (pv 0)) (pg_name (i := 4) sc__law_value.nd rfl (Or.inl rfl))
        (pss_one (ps_for PassesOwn.never rfl (pi_tup (pe_ix ix_tup (pv 4) pe_int (fun _ _ => rfl))) (pg_name (i := 5) sc__law_value.nd rfl (Or.inl rfl))
          (pss_one (ps_if (PW.pt (pw_and (pt_cmpR op_eq (pe_ix ix_tup (pv 5) pe_int (fun _ _ => rfl)) (pv 1) (nomark _)) (pw_and1 (pt_cmpR op_gt (pe_ix ix_tup (pv 5) pe_int (fun _ _ => rfl)) (pv 2) (nomark _))))) (pss_cons (ps_set (i := 2) sc__law_value.nd rfl (Or.inl rfl) (pe_ix ix_tup (pv 5) pe_int (fun _ _ => rfl)))
            (pss_one (ps_set (i := 3) sc__law_value.nd rfl (Or.inl rfl) (pe_ix ix_tup (pv 5) pe_int (fun _ _ => rfl))))) pss_nil)))))
      (pss_one (ps_ret (pv 3)))))), ?_⟩
    refine ⟨_, rfl, (by show 1 ≤ sizeLine; decide), fun n hn => ?_⟩
    have s1 := same_upd (o := .tup [.str "nothing"]) hn
    have hn0 : PVA K (upd H n (.tup [.str "nothing"])) (.ref n) (bestO []).2 := ⟨n, rfl, .inl upd_same⟩
    have ha1 := s1 _ _ ha
    have hps1 := mps_tk (TK.same s1) hps
    generalize upd H n (.tup [.str "nothing"]) = G at s1 hn0 ha1 hps1
    refine ⟨_, rfl, a, rfl, ⟨_, sql ha1⟩, for_list (K := K) (a := a) (xs := xs) (fun i σ H2 => G = H2 ∧ ∃ v x4 x5, σ = [some (.ref a), some (.int sl), some (.int (bestO (rowsOf ((ps.take i).flatMap (·.2)) sl)).1), some v, x4, x5] ∧ PVA K G v (bestO (rowsOf ((ps.take i).flatMap (·.2)) sl)).2)
      ⟨rfl, _, none, none, rfl, hn0⟩ (fun i σ H2 _ ⟨e, _⟩ => by rw [← e]; exact sql ha1) ?_ ?_⟩
    · rintro i x σ _ hx ⟨rfl, v, x4, x5, rfl, hv⟩
      obtain ⟨⟨idx, rs⟩, u, t, ys, hpi, rfl, hu, ht, hrs⟩ := mps_at hps1 hx
      refine ⟨_, rfl, u, _, 1, .ref t, rfl, rfl, hu.seq, rfl, t, rfl, ⟨_, ht.seq⟩, ?_⟩
      refine for_tup (K := K) (a := t) (xs := ys) (fun j σ H2 => G = H2 ∧ ∃ v x4 x5, σ = [some (.ref a), some (.int sl), some (.int (bestO (rowsOf ((ps.take i).flatMap (·.2) ++ rs.take j) sl)).1), some v, x4, x5] ∧ PVA K G v (bestO (rowsOf ((ps.take i).flatMap (·.2) ++ rs.take j) sl)).2)
        ⟨rfl, v, some (.ref u), x5, by rw [List.take_zero, List.append_nil]; rfl, by rw [List.take_zero, List.append_nil]; exact hv⟩ (fun j σ H2 _ ⟨e, _⟩ => by rw [← e]; exact ht.seq) ?_ ?_
      · rintro j x σ _ hx2 ⟨rfl, v, x4, x5, rfl, hv⟩
        obtain ⟨r, hr1, t2, w, rfl, ht2, hw⟩ := rows_at hrs hx2
        have hstep : (ps.take i).flatMap (·.2) ++ rs.take (j + 1) = ((ps.take i).flatMap (·.2) ++ rs.take j) ++ [r] := by rw [take_more hr1, List.append_assoc]
        rw [hstep, rowsOf_app]
        refine ⟨_, rfl, t2, _, 0, .int r.1, rfl, rfl, ht2.seq, rfl, ?_⟩
        refine ⟨_, rfl, rfl, _, rfl, ifd (fun he => ?_) (fun he => ?_)⟩
        · have hs : r.1 = sl := V.int.inj he
          rw [if_pos hs, bestO_app]
          refine ⟨_, rfl, t2, _, 1, .int r.2.1, rfl, rfl, ht2.seq, rfl, _, rfl, _, _, rfl, rfl, _, rfl, ifd (fun hc => ?_) (fun hc => ?_)⟩
          · refine ⟨_, rfl, t2, _, 1, .int r.2.1, rfl, rfl, ht2.seq, rfl, _, rfl, t2, _, 2, w, rfl, rfl, ht2.seq, rfl, ?_⟩
            refine ⟨rfl, w, x4, some (.ref t2), ?_, ?_⟩
            · rw [btr, if_pos hc]; rfl
            · rw [btr, if_pos hc]; exact hw
          · refine ⟨rfl, v, x4, some (.ref t2), ?_, ?_⟩
            · rw [btr, if_neg hc]; rfl
            · rw [btr, if_neg hc]; exact hv
        · have hs : ¬ r.1 = sl := fun z => he (congrArg V.int z)
          rw [if_neg hs]
          exact ⟨rfl, v, x4, some (.ref t2), rfl, hv⟩
      · rintro σ _ ⟨rfl, v, x4, x5, rfl, hv⟩
        rw [rows_len hrs, List.take_length] at hv ⊢
        refine ⟨rfl, v, x4, x5, ?_, ?_⟩
        · rw [take_more hpi, List.flatMap_append, List.flatMap_cons, List.flatMap_nil, List.append_nil]
        · rw [take_more hpi, List.flatMap_append, List.flatMap_cons, List.flatMap_nil, List.append_nil]
          exact hv
    · rintro σ _ ⟨rfl, v, x4, x5, rfl, hv⟩
      rw [mps_len hps1, List.take_length] at hv
      exact ⟨v, rfl, q v G s1 hv⟩
end
def MOp (K : PySem.W.Frag) (H : Hp) : List V → List Addr → List PEnt → Prop
  | [], [], [] => True
  | x :: xs, q :: qs, e :: es => (∃ l v, x = .ref l ∧ H l = some (.lst [.int e.1, v, .ref q]) ∧ PVA K H v e.2.1 ∧ H q = some (.lst (e.2.2.map V.int))) ∧ MOp K H xs qs es
  | _, _, _ => False
/-- the greatest slot, from f - 1 on -/
def topM (rows : List PRow) (f : Int) : Int := rows.foldl (fun m r => mxI m r.1) (f - 1)
theorem topM_app (rows : List PRow) (r : PRow) (f : Int) : topM (rows ++ [r]) f = mxI (topM rows f) r.1 := by
  unfold topM
  rw [List.foldl_append]
  rfl
def proM (c : MC) (bs : Int) (pa : Addr) : MC := { c with pa := pa, fi := mxI c.fi bs }
def openN (rows : List PRow) (f : Int) : Nat := (topM rows f + 1 - f).toNat
def leadM (c : MC) (rows : List PRow) (bs : Int) (pa oa : Addr) : MC := { c with pa := pa, fi := mxI c.fi bs, st := "leading", oa := oa, fr := topM rows (mxI c.fi bs) + 1 }
def OPs (K : PySem.W.Frag) (H : Hp) : List V → List PEnt → Prop
  | [], [] => True
  | x :: xs, e :: es => (∃ t v, x = .ref t ∧ StT K H t [.int e.1, v] ∧ PVA K H v e.2.1) ∧ OPs K H xs es
  | _, _ => False
theorem ops_at {K : PySem.W.Frag} {H : Hp} : ∀ {xs : List V} {es : List PEnt} {i : Nat} {x : V}, OPs K H xs es → xs[i]? = some x → ∃ e, es[i]? = some e ∧ ∃ t v, x = .ref t ∧ StT K H t [.int e.1, v] ∧ PVA K H v e.2.1
  | [], [], i, _, _, h => by simp at h
  | _ :: _, e :: _, 0, x, ⟨a, _⟩, h => by
    simp only [List.getElem?_cons_zero, Option.some.injEq] at h
    subst h
    exact ⟨e, rfl, a⟩
  | _ :: _, _ :: _, i + 1, x, ⟨_, r⟩, h => by
    obtain ⟨e, h1, h2⟩ := ops_at (i := i) r (by simpa using h)
    exact ⟨e, by simpa using h1, h2⟩
theorem mop_fr {K : PySem.W.Frag} {H H' : Hp} (k : ∀ x xs, H x = some (.lst xs) → H' x = some (.lst xs)) (t : TK H H') : ∀ {xs : List V} {qs : List Addr} {es : List PEnt}, MOp K H xs qs es → MOp K H' xs qs es
  | [], [], [], _ => trivial
  | _ :: _, _ :: _, _ :: _, ⟨⟨l, v, a, b, c, d⟩, r⟩ => ⟨⟨l, v, a, k _ _ b, c.tk t, k _ _ d⟩, mop_fr k t r⟩
theorem ops_dp {K : PySem.W.Frag} {H : Hp} : ∀ {xs : List V} {es : List PEnt}, OPs K H xs es → DpAll K H xs (es.map entD)
  | [], [], _ => .nil
  | _ :: _, _ :: _, ⟨⟨t, v, e, a, b⟩, r⟩ => by
    subst e
    exact .cons (.tup a.seq (.cons (.int _) (.cons b.dp .nil))) (ops_dp r)
theorem mop_app {K : PySem.W.Frag} {H : Hp} {l q : Addr} {v : V} {e : PEnt} (a : H l = some (.lst [.int e.1, v, .ref q])) (b : PVA K H v e.2.1) (c : H q = some (.lst (e.2.2.map V.int))) : ∀ {xs : List V} {qs : List Addr} {es : List PEnt}, MOp K H xs qs es → MOp K H (xs ++ [.ref l]) (qs ++ [q]) (es ++ [e])
  | [], [], [], _ => ⟨⟨l, v, rfl, a, b, c⟩, trivial⟩
  | _ :: _, _ :: _, _ :: _, ⟨h, r⟩ => ⟨h, mop_app a b c r⟩
theorem mop_len {K : PySem.W.Frag} {H : Hp} : ∀ {xs : List V} {qs : List Addr} {es : List PEnt}, MOp K H xs qs es → xs.length = es.length
  | [], [], [], _ => rfl
  | _ :: _, _ :: _, _ :: _, ⟨_, r⟩ => congrArg (· + 1) (mop_len r)
theorem topM_le {f B : Int} (hf : f - 1 ≤ B) {rows : List PRow} (h : ∀ r ∈ rows, r.1 ≤ B) : f - 1 ≤ topM rows f ∧ topM rows f ≤ B := by
  have go : ∀ (rows : List PRow) (m : Int), (∀ r ∈ rows, r.1 ≤ B) → m ≤ B → m ≤ rows.foldl (fun m r => mxI m r.1) m ∧ rows.foldl (fun m r => mxI m r.1) m ≤ B := fun rows => by
    induction rows with
    | nil => intro m _ h; exact ⟨Int.le_refl _, h⟩
    | cons r rows ih =>
      intro m h hm
      have h1 := h r List.mem_cons_self
      have h2 : m ≤ mxI m r.1 ∧ mxI m r.1 ≤ B := by unfold mxI; split <;> omega
      obtain ⟨h3, h4⟩ := ih (mxI m r.1) (fun y hy => h y (List.mem_cons_of_mem _ hy)) h2.2
      exact ⟨Int.le_trans h2.1 h3, h4⟩
  exact go rows _ h hf
theorem ops_tk {K : PySem.W.Frag} {H H' : Hp} (k : TK H H') : ∀ {xs : List V} {es : List PEnt}, OPs K H xs es → OPs K H' xs es
  | [], [], _ => trivial
  | _ :: _, _ :: _, ⟨⟨t, v, a, b, c⟩, r⟩ => ⟨⟨t, v, a, b.tk k, c.tk k⟩, ops_tk k r⟩
theorem ops_app {K : PySem.W.Frag} {H : Hp} {t : Addr} {v : V} {e : PEnt} (a : StT K H t [.int e.1, v]) (b : PVA K H v e.2.1) : ∀ {xs : List V} {es : List PEnt}, OPs K H xs es → OPs K H (xs ++ [.ref t]) (es ++ [e])
  | [], [], _ => ⟨⟨t, v, rfl, a, b⟩, trivial⟩
  | _ :: _, _ :: _, ⟨h, r⟩ => ⟨h, ops_app a b r⟩
theorem ops_len {K : PySem.W.Frag} {H : Hp} : ∀ {xs : List V} {es : List PEnt}, OPs K H xs es → xs.length = es.length
  | [], [], _ => rfl
  | _ :: _, _ :: _, ⟨_, r⟩ => congrArg (· + 1) (ops_len r)
def sp_lpromise (K : PySem.W.Frag) : Sp := fun vs H Q _ => ∃ (m : Addr) (c : MC) (i b bs : Int) (t : Addr) (xs ys : List V) (ps : List (Int × List PRow)) (rs : List PRow), vs = [.ref m, .int i, .int b, .int bs, .ref t] ∧ H m = some (.dK (stK c)) ∧ H c.pa = some (.lst xs) ∧ MPs K H xs ps ∧ StT K H t ys ∧ RowsIs K H ys rs ∧ ps.length ≤ 100 ∧
  (∀ r ∈ ps.flatMap (·.2) ++ rs, r.1 ≤ 5000) ∧ (0 ≤ c.fi ∧ c.fi ≤ 4000 ∧ bs ≤ 4000) ∧
  ((c.st ≠ "preparing" ∨ b ≠ c.b ∨ i ∈ ps.map (·.1)) → ∀ (l : Addr) (H' : Hp), Same H H' → H' l = some (.lst []) → Q (.ref l) H') ∧
  (¬ (c.st ≠ "preparing" ∨ b ≠ c.b ∨ i ∈ ps.map (·.1)) → (2 * ((ps.length : Int) + 1) ≤ c.ct) → ∀ (l pa : Addr) (zs : List V) (H' : Hp), Fr [m] H H' → H pa = none → H' pa = some (.lst zs) → MPs K H' zs (ps ++ [(i, rs)]) → H' m = some (.dK (stK (proM c bs pa))) → H' l = some (.lst []) → Q (.ref l) H') ∧
  (¬ (c.st ≠ "preparing" ∨ b ≠ c.b ∨ i ∈ ps.map (·.1)) → ¬ (2 * ((ps.length : Int) + 1) ≤ c.ct) → ∀ (l pa oa : Addr) (us zs ws : List V) (qs : List Addr) (H' : Hp), Fr [m] H H' → H pa = none → H' pa = some (.lst zs) → MPs K H' zs (ps ++ [(i, rs)]) →
    H' oa = some (.lst ws) → MOp K H' ws qs (opened (ps.flatMap (·.2) ++ rs) (mxI c.fi bs) (openN (ps.flatMap (·.2) ++ rs) (mxI c.fi bs))) → (pa :: oa :: qs).Nodup → (∀ x ∈ oa :: qs, H x = none) → H' m = some (.dK (stK (leadM c (ps.flatMap (·.2) ++ rs) bs pa oa))) →
    H' l = some (.lst us) → Dp K H' (.ref l) (.list ((opened (ps.flatMap (·.2) ++ rs) (mxI c.fi bs) (openN (ps.flatMap (·.2) ++ rs) (mxI c.fi bs))).map entD)) → Q (.ref l) H')
section
variable {P : Program} {w : World} {K : PySem.W.Frag} {mg : Str → Option Value} {base : Heap}
theorem ok__law_promise (T : TX K mg) : FnOk P w K mg base CX0 2 T.a__law_promise T.d__law_promise ["model", "index", "ballot", "base", "rows"] (sp_lpromise K) := by
  refine T.F__law_promise.ok sc__law_promise (fun vs H Q E h => ?_) (fun cdv A outer s H vs Q E hr h => ?_)
  · obtain ⟨m, c, i, b, bs, t, xs, ys, ps, rs, rfl, _⟩ := h
    rfl
  · obtain ⟨m, c, i, b, bs, t, xs, ys, ps, rs, rfl, hm, hpa, hps, ht, hrs, hpl, hrg, hf0, q1, q2, q3⟩ := h
    refine ⟨_, (pss_cons (ps_if (PW.pt (pw_or (pt_cmpR op_ne (pe_dget (hu_of hr) (pv 0) pe_str (fun _ _ => rfl)) pe_str (nomark _)) (pw_or1 (pt_cmpR op_ne (pv 2) (pe_dget (hu_of hr) (pv 0) pe_str (fun _ _ => rfl)) (nomark _))))) (pss_one (ps_ret (pe_lst pa_nil))) pss_nil)
      (pss_cons (ps_if (pt_cmpR op_gt (pe_callB call_len_seq (by rfl) T.n_len PySem.boot_len (pa_cons (pe_lc (own := [("one", 10)]) (g := gName 10)  (by rfl) sc__law_promise.nd (pi_list (pe_dget (hu_of hr) (pv 0) pe_str (fun _ _ => rfl))) (blkOk_by (own := [("one", 10)]) (N := ["model", "index", "ballot", "base", "rows", "last", "promise", "row", "opened", "slot", "one"]) (sc := defScope s__law_promise) (by decide +kernel)) (fun _ _ _ _ _ => pg_name (i := 10) sc__law_promise.nd rfl (Or.inl rfl)) (fun _ _ _ _ _ => pts_one (pt_cmpR op_eq (pe_ix (ixK_tup (K := K) rfl) (pv 10) pe_int (fun _ _ => rfl)) (pv 1) (nomark _))) (fun _ _ _ _ _ => (pv 10))) pa_nil)) pe_int (nomark _)) (pss_one (ps_ret (pe_lst pa_nil))) pss_nil)
      (pss_cons (ps_dput (hu_of hr) (pv 0) pe_str (pe_op op_cat (pe_dget (hu_of hr) (pv 0) pe_str (fun _ _ => rfl)) (pe_lst (pa_cons (pe_tup (pa_cons (pv 1) (pa_cons (pv 4) pa_nil))) pa_nil))) rfl)
      (pss_cons (ps_dput (hu_of hr) (pv 0) pe_str (pe_callB (call_max2 rfl) (by rfl) T.n_max (by decide +kernel) (pa_cons (pe_dget (hu_of hr) (pv 0) pe_str (fun _ _ => rfl)) (pa_cons (pv 3) pa_nil))) rfl)
      (pss_cons (ps_if (pt_cmpR op_le (pe_op op_mul pe_int (pe_callB call_len_seq (by rfl) T.n_len PySem.boot_len (pa_cons (pe_dget (hu_of hr) (pv 0) pe_str (fun _ _ => rfl)) pa_nil))) (pe_dget (hu_of hr) (pv 0) pe_str (fun _ _ => rfl)) (nomark _)) (pss_one (ps_ret (pe_lst pa_nil))) pss_nil)
      (pss_cons (ps_dput (hu_of hr) (pv 0) pe_str pe_str rfl)
      (pss_cons (ps_set (i := 5) sc__law_promise.nd rfl (Or.inl rfl) (pe_op op_sub (pe_dget (hu_of hr) (pv 0) pe_str (fun _ _ => rfl)) pe_int))
      (pss_cons (ps_for PassesOwn.never rfl (pi_list (pe_dget (hu_of hr) (pv 0) pe_str (fun _ _ => rfl))) (pg_name (i := 6) sc__law_promise.nd rfl (Or.inl rfl))
        (pss_one (ps_for PassesOwn.never rfl (pi_tup (pe_ix ix_tup (pv 6) pe_int (fun _ _ => rfl))) (pg_name (i := 7) sc__law_promise.nd rfl (Or.inl rfl))
          (pss_one (ps_set (i := 5) sc__law_promise.nd rfl (Or.inl rfl) (pe_callB (call_max2 rfl) (by rfl) T.n_max (by decide +kernel) (pa_cons (pv 5) (pa_cons (pe_ix ix_tup (pv 7) pe_int (fun _ _ => rfl)) pa_nil))))))))
      (pss_cons (ps_set (i := 8) sc__law_promise.nd rfl (Or.inl rfl) (pe_lst pa_nil))
      (pss_cons (ps_for PassesOwn.never rfl (pi_range2 (by rfl) T.n_range (pa_cons (pe_dget (hu_of hr) (pv 0) pe_str (fun _ _ => rfl)) (pa_cons (pe_op op_add (pv 5) pe_int) pa_nil))) (pg_name (i := 9) sc__law_promise.nd rfl (Or.inl rfl))
        (pss_one (ps_expr (pe_bm PySem.F.plainAttrs_list PySem.F.slot_list_append PySem.F.type_list_append mt_append (pv 8) (pa_cons (pe_tup (pa_cons (pv 9) (pa_cons (pe_call (ok__law_value T) (hr.mono (by decide)) (by rfl) T.g__law_value T.F__law_value.kp T.b__law_value .nil pass0 (pa_cons (pe_dget (hu_of hr) (pv 0) pe_str (fun _ _ => rfl)) (pa_cons (pv 9) pa_nil))) pa_nil))) pa_nil)))))
      (pss_cons (ps_dput (hu_of hr) (pv 0) pe_str (pe_lc (own := [("one", 10)]) (g := gName 10) (tt := tYes) (by rfl) sc__law_promise.nd (pi_list (pv 8)) (blkOk_by (own := [("one", 10)]) (N := ["model", "index", "ballot", "base", "rows", "last", "promise", "row", "opened", "slot", "one"]) (sc := defScope s__law_promise) (by decide +kernel)) (fun _ _ _ _ _ => pg_name (i := 10) sc__law_promise.nd rfl (Or.inl rfl)) (fun _ _ _ _ _ => pts_nil) (fun _ _ _ _ _ => (pe_lst (pa_cons (pe_ix (ixK_tup (K := K) rfl) (pv 10) pe_int (fun _ _ => rfl)) (pa_cons (pe_ix (ixK_tup (K := K) rfl) (pv 10) pe_int (fun _ _ => rfl)) (pa_cons (pe_lst pa_nil) pa_nil)))))) rfl)
      (pss_cons (ps_dput (hu_of hr) (pv 0) pe_str (pe_op op_add (pv 5) pe_int) rfl)
      (pss_one (ps_ret (pv 8))))))))))))))), ?_⟩
    have ret : (c.st ≠ "preparing" ∨ b ≠ c.b ∨ i ∈ ps.map (·.1)) → ∀ (D : Ends) (σ : L2.St) (G : Hp), D.rt = Q → Same H G → tRet (tLst tNil) D σ G := fun z D σ G e sm => ⟨Nat.zero_le _, fun l hl => by rw [e]; exact q1 z l _ (sm.trans (same_upd hl)) upd_same⟩
    refine ⟨_, rfl, m, _, rfl, gg_st hm, rfl, _, rfl, ?_⟩
    refine ifb2 (fun hc => ifbt rfl (ret (.inl fun z => by rw [z] at hc; revert hc; decide +kernel) _ _ _ rfl (Same.refl _))) fun hc => ?_
    have hst : c.st = "preparing" := Decidable.byContradiction fun z => by
      rw [decide_eq_false (fun y => z (V.str.inj y))] at hc
      cases hc
    refine ⟨_, rfl, _, rfl, m, _, rfl, gg_b hm, rfl, _, rfl, ?_⟩
    refine ifb2 (fun hc2 => ret (.inr (.inl fun z => by rw [z] at hc2; simp at hc2)) _ _ _ rfl (Same.refl _)) fun hc2 => ?_
    have hb : b = c.b := Decidable.byContradiction fun z => by
      rw [decide_eq_false (fun y => z (V.int.inj y))] at hc2
      cases hc2
    have hkf : ∀ l : List (Int × List PRow), ((l.filter fun q => decide (q.1 = i)).length : Int) > 0 ↔ i ∈ l.map (·.1) := fun l => by
      induction l with
      | nil => simp
      | cons q l ih =>
        by_cases h : q.1 = i
        · rw [List.filter_cons_of_pos (by simp [h]), List.map_cons, h]
          simp only [List.length_cons, List.mem_cons, true_or, iff_true]
          omega
        · rw [List.filter_cons_of_neg (by simp [h]), ih, List.map_cons, List.mem_cons]
          exact ⟨.inr, fun z => z.resolve_left fun e => h e.symm⟩
    refine ⟨_, rfl, m, _, rfl, gg_pa hm, c.pa, rfl, ⟨_, sql hpa⟩, fun D hD => ?_⟩
    refine lc_it (walk_list (K := K) (a := c.pa) (xs := xs)) (fun j G => Same H G ∧ ∃ zs, G D = some (.lst zs) ∧ zs.length = ((ps.take j).filter fun q => decide (q.1 = i)).length) ⟨same_upd hD, [], upd_same, rfl⟩ (fun j G _ h => h.1.seq (sql hpa)) ?_ ?_
    · rintro j x G0 G hj ⟨sm, zs, ez, lz⟩ ⟨rfl, hx⟩
      obtain ⟨q, u, t', ys', hpi, rfl, hu, _⟩ := mps_at hps hx
      have hf := take_filter (fun q : Int × List PRow => decide (q.1 = i)) hpi
      refine ⟨rfl, ?_⟩
      refine ⟨_, rfl, u, _, 0, .int q.1, rfl, rfl, (hu.tk (TK.same sm)).seq, rfl, _, rfl, rfl, _, rfl, ?_⟩
      by_cases he : q.1 = i
      · rw [hf, if_pos (decide_eq_true he)]
        refine (if_pos (decide_eq_true (congrArg V.int he))).mpr ⟨_, rfl, zs, ez, szl ?_, same_put sm hD, _, upd_same, ?_⟩
        · have := List.length_filter_le (fun q : Int × List PRow => decide (q.1 = i)) (ps.take j)
          rw [List.length_take] at this
          omega
        · rw [List.length_append, List.length_append, lz]
          rfl
      · rw [hf, if_neg (by rw [decide_eq_false he]; exact Bool.false_ne_true), List.append_nil]
        exact (if_neg (by rw [decide_eq_false (fun y => he (V.int.inj y))]; exact Bool.false_ne_true)).mpr ⟨sm, zs, ez, lz⟩
    · rintro G ⟨sm, zs, ez, lz⟩
      rw [mps_len hps, List.take_length] at lz
      refine ⟨D, zs, rfl, .inl (sql ez), _, _, rfl, rfl, _, rfl, ?_⟩
      rw [lz]
      refine ifd (fun hx => ret (.inr (.inr ((hkf ps).mp hx))) _ _ _ rfl sm) fun hx => ?_
      have hi : i ∉ ps.map (·.1) := fun z => hx ((hkf ps).mpr z)
      have hnot : ¬ (c.st ≠ "preparing" ∨ b ≠ c.b ∨ i ∈ ps.map (·.1)) := fun z => z.elim (fun q => q hst) fun z => z.elim (fun q => q hb) hi
      have q2 := q2 hnot
      have q3 := q3 hnot
      clear ret q1 hkf
      have hm1 := sm _ _ hm
      have hpa1 := sm _ _ hpa
      have hps1 := mps_tk (TK.same sm) hps
      have ht1 := ht.tk (TK.same sm)
      have hrs1 := rows_tk (TK.same sm) hrs
      clear ez lz hD
      refine ⟨_, rfl, m, _, rfl, gg_pa hm1, _, rfl, _, rfl, (by show 2 ≤ sizeLine; decide), fun u hu => ⟨(by show 1 ≤ sizeLine; decide), fun l1 hl1 => ?_⟩⟩
      have sA := ((same_upd (o := .tup [.int i, .ref t]) hu).trans (same_upd (o := .lst [.ref u]) hl1))
      have eu : (upd (upd G u (.tup [.int i, .ref t])) l1 (.lst [.ref u])) u = some (.tup [.int i, .ref t]) := by
        rw [upd_ne (fun z => by rw [← z, upd_same] at hl1; cases hl1), upd_same]
      have el : (upd (upd G u (.tup [.int i, .ref t])) l1 (.lst [.ref u])) l1 = some (.lst [.ref u]) := upd_same
      have hml := mps_len hps
      refine ⟨c.pa, l1, xs, [.ref u], rfl, rfl, sA _ _ hpa1, el, by rw [hml]; exact Nat.le_of_lt (szl (by show ps.length + 1 ≤ _; omega)), fun pa hpa2 => ?_⟩
      have sB := (sm.trans sA).trans (same_upd (o := .lst (xs ++ [.ref u])) hpa2)
      have fpa : H pa = none := by
        cases e : H pa with
        | none => rfl
        | some o => rw [(sm.trans sA) _ _ e] at hpa2; cases hpa2
      have tkB := TK.same sB
      have eu2 := same_upd (o := .lst (xs ++ [.ref u])) hpa2 _ _ eu
      have ep2 : (upd (upd (upd G u (.tup [.int i, .ref t])) l1 (.lst [.ref u])) pa (.lst (xs ++ [.ref u]))) pa = some (.lst (xs ++ [.ref u])) := upd_same
      have hm2 := sB _ _ hm
      have hps2 : MPs K (upd (upd (upd G u (.tup [.int i, .ref t])) l1 (.lst [.ref u])) pa (.lst (xs ++ [.ref u]))) (xs ++ [.ref u]) (ps ++ [(i, rs)]) := mps_app (.inl eu2) (ht.tk tkB) (rows_tk tkB hrs) (mps_tk tkB hps)
      clear sA eu el eu2 hl1 hu hpa2
      generalize upd (upd (upd G u (.tup [.int i, .ref t])) l1 (.lst [.ref u])) pa (.lst (xs ++ [.ref u])) = G2 at sB tkB ep2 hm2 hps2
      have npm : pa ≠ m := fun z => by rw [z, hm] at fpa; cases fpa
      refine ⟨_, rfl, m, _, rfl, pp_pa hm2 pa, ?_⟩
      refine ⟨_, rfl, m, _, rfl, gg_fi (c := { c with pa := pa }) upd_same, _, rfl, _, _, rfl, ?_⟩
      refine ⟨_, rfl, m, _, rfl, pp_fi (c := { c with pa := pa }) upd_same (mxI c.fi bs), ?_⟩
      rw [upd_upd]
      have f3 : Fr [m] H (upd G2 m (.dK (stK { c with pa := pa, fi := mxI c.fi bs }))) := (Fr.of_same sB).up (by simp)
      have hm3 : (upd G2 m (.dK (stK { c with pa := pa, fi := mxI c.fi bs }))) m = some (.dK (stK { c with pa := pa, fi := mxI c.fi bs })) := upd_same
      have ep3 : (upd G2 m (.dK (stK { c with pa := pa, fi := mxI c.fi bs }))) pa = some (.lst (xs ++ [.ref u])) := by rw [upd_ne npm]; exact ep2
      have tk3 : TK G2 (upd G2 m (.dK (stK { c with pa := pa, fi := mxI c.fi bs }))) := fun y ys h => by
        rw [upd_ne (fun z => by rw [z, hm2] at h; cases h)]
        exact h
      have hps3 := mps_tk tk3 hps2
      clear hm2 ep2 hps2
      change tSeq _ _ _ _ (upd G2 m (.dK (stK { c with pa := pa, fi := mxI c.fi bs })))
      generalize upd G2 m (.dK (stK { c with pa := pa, fi := mxI c.fi bs })) = G3 at f3 hm3 ep3 tk3 hps3
      have hzl : (((xs ++ [V.ref u]).length : Nat) : Int) = (ps.length : Int) + 1 := by rw [List.length_append, hml]; rfl
      refine ⟨_, rfl, m, _, rfl, gg_pa hm3, pa, _, rfl, .inl (sql ep3), ?_⟩
      refine ⟨_, _, rfl, rfl, (.inl ⟨by decide, by decide⟩), _, rfl, m, _, rfl, gg_ct hm3, _, _, rfl, rfl, _, rfl, ?_⟩
      rw [hzl]
      refine ifd (fun hx2 => ?_) fun hx2 => ?_
      · refine ⟨Nat.zero_le _, fun l hl => ?_⟩
        have s4 := same_upd (o := .lst []) hl
        exact q2 hx2 l pa _ _ (f3.trans (Fr.of_same s4)) fpa (s4 _ _ ep3) (mps_tk (TK.same s4) hps3) (s4 _ _ hm3) upd_same
      have q3 := q3 hx2
      clear q2
      refine ⟨_, rfl, m, _, rfl, pp_st hm3 "leading", ?_⟩
      have f4 : Fr [m] H (upd G3 m (.dK (stK { c with pa := pa, fi := mxI c.fi bs, st := "leading" }))) := f3.up (by simp)
      have hm4 : (upd G3 m (.dK (stK { c with pa := pa, fi := mxI c.fi bs, st := "leading" }))) m = some (.dK (stK { c with pa := pa, fi := mxI c.fi bs, st := "leading" })) := upd_same
      have ep4 : (upd G3 m (.dK (stK { c with pa := pa, fi := mxI c.fi bs, st := "leading" }))) pa = some (.lst (xs ++ [.ref u])) := by rw [upd_ne npm]; exact ep3
      have hps4 := mps_tk (fun y ys h => by
        rw [upd_ne (fun z => by rw [z, hm3] at h; cases h)]
        exact h : TK G3 (upd G3 m (.dK (stK { c with pa := pa, fi := mxI c.fi bs, st := "leading" })))) hps3
      clear hm3 ep3 hps3 f3 tk3
      change tSeq _ _ _ _ (upd G3 m (.dK (stK { c with pa := pa, fi := mxI c.fi bs, st := "leading" })))
      generalize upd G3 m (.dK (stK { c with pa := pa, fi := mxI c.fi bs, st := "leading" })) = G4 at f4 hm4 ep4 hps4
      refine ⟨_, rfl, m, _, rfl, gg_fi hm4, _, _, rfl, rfl, ?_⟩
      refine ⟨_, rfl, m, _, rfl, gg_pa hm4, pa, rfl, ⟨_, sql ep4⟩, ?_⟩
      refine for_list (K := K) (a := pa) (xs := xs ++ [.ref u]) (fun j σ H2 => G4 = H2 ∧ ∃ x6 x7, σ = [some (.ref m), some (.int i), some (.int b), some (.int bs), some (.ref t), some (.int (topM (((ps ++ [(i, rs)]).take j).flatMap (·.2)) (mxI c.fi bs))), x6, x7, none, none, none])
        ⟨rfl, none, none, rfl⟩ (fun j σ H2 _ ⟨e, _⟩ => by rw [← e]; exact sql ep4) ?_ ?_
      · rintro j x σ _ hx ⟨rfl, x6, x7, rfl⟩
        obtain ⟨⟨idx, rs1⟩, u1, t1, ys1, hpi, rfl, hu1, ht1', hrs1'⟩ := mps_at hps4 hx
        refine ⟨_, rfl, u1, _, 1, .ref t1, rfl, rfl, hu1.seq, rfl, t1, rfl, ⟨_, ht1'.seq⟩, ?_⟩
        refine for_tup (K := K) (a := t1) (xs := ys1) (fun k σ H2 => G4 = H2 ∧ ∃ x6 x7, σ = [some (.ref m), some (.int i), some (.int b), some (.int bs), some (.ref t), some (.int (topM (((ps ++ [(i, rs)]).take j).flatMap (·.2) ++ rs1.take k) (mxI c.fi bs))), x6, x7, none, none, none])
          ⟨rfl, some (.ref u1), x7, by rw [List.take_zero, List.append_nil]; rfl⟩ (fun k σ H2 _ ⟨e, _⟩ => by rw [← e]; exact ht1'.seq) ?_ ?_
        · rintro k x σ _ hx2 ⟨rfl, x6, x7, rfl⟩
          obtain ⟨r, hr1, t2, w2, rfl, ht2, _⟩ := rows_at hrs1' hx2
          have hstep : ((ps ++ [(i, rs)]).take j).flatMap (·.2) ++ rs1.take (k + 1) = (((ps ++ [(i, rs)]).take j).flatMap (·.2) ++ rs1.take k) ++ [r] := by rw [take_more hr1, List.append_assoc]
          rw [hstep, topM_app]
          refine ⟨_, rfl, _, rfl, t2, _, 0, .int r.1, rfl, rfl, ht2.seq, rfl, _, _, rfl, ?_⟩
          exact ⟨rfl, x6, some (.ref t2), rfl⟩
        · rintro σ _ ⟨rfl, x6, x7, rfl⟩
          refine ⟨rfl, x6, x7, ?_⟩
          rw [rows_len hrs1', List.take_length, take_more hpi, List.flatMap_append, List.flatMap_cons, List.flatMap_nil, List.append_nil]
      rintro σ _ ⟨rfl, x6, x7, rfl⟩
      rw [mps_len hps4, List.take_length, List.flatMap_append, List.flatMap_cons, List.flatMap_nil, List.append_nil]
      generalize hrows : ps.flatMap (·.2) ++ rs = rows at hrg q3
      have hps5 : (ps ++ [(i, rs)]).flatMap (·.2) = rows := by rw [List.flatMap_append, List.flatMap_cons, List.flatMap_nil, List.append_nil]; exact hrows
      refine ⟨Nat.zero_le _, fun o ho => ?_⟩
      have s5 := same_upd (o := .lst []) ho
      have fo : H o = none := fr_none f4 (fun z => by rw [List.mem_singleton] at z; rw [z, hm4] at ho; cases ho) ho
      have f5 := f4.trans (Fr.of_same (L := [m]) s5)
      have hm5 := s5 _ _ hm4
      have ep5 := s5 _ _ ep4
      have hps6 := mps_tk (TK.same s5) hps4
      have eo5 : (upd G4 o (.lst [])) o = some (.lst []) := upd_same
      generalize upd G4 o (.lst []) = G5 at s5 f5 hm5 ep5 hps6 eo5
      refine ⟨_, rfl, m, _, rfl, gg_fi hm5, _, rfl, _, _, rfl, rfl, ?_⟩
      have hfb : 0 ≤ mxI c.fi bs ∧ mxI c.fi bs ≤ 4000 := by unfold mxI; split <;> omega
      have htm := topM_le (f := mxI c.fi bs) (B := 5000) (by omega) hrg
      have hpa5 : ∀ {G : Hp}, Fr [o] G5 G → G pa = some (.lst (xs ++ [.ref u])) ∧ G m = some (.dK (stK { c with pa := pa, fi := mxI c.fi bs, st := "leading" })) ∧ TK G5 G := fun k => by
        refine ⟨k _ _ ep5 fun z => ?_, k _ _ hm5 fun z => ?_, fun y ys h => k _ _ h fun z => ?_⟩
        · rw [List.mem_singleton] at z
          rw [← z, ep4] at ho
          cases ho
        · rw [List.mem_singleton] at z
          rw [z, eo5] at hm5
          cases hm5
        · rw [List.mem_singleton] at z
          rw [z, eo5] at h
          cases h
      refine ⟨_, _, rfl, ⟨(by show -(2 ^ 62 : Int) ≤ mxI c.fi bs; omega), (by show mxI c.fi bs < (2 ^ 62 : Int); omega), (by show -(2 ^ 62 : Int) ≤ topM rows (mxI c.fi bs) + 1; omega), (by show topM rows (mxI c.fi bs) + 1 < (2 ^ 62 : Int); omega)⟩, ?_⟩
      refine for_range (lo := mxI c.fi bs) (n := openN rows (mxI c.fi bs)) (fun j σ G => ∃ x9 us, σ = [some (.ref m), some (.int i), some (.int b), some (.int bs), some (.ref t), some (.int (topM rows (mxI c.fi bs))), x6, x7, some (.ref o), x9, none] ∧ Fr [o] G5 G ∧ G o = some (.lst us) ∧ OPs K G us (opened rows (mxI c.fi bs) j))
        ⟨none, [], rfl, Fr.refl _ _, eo5, trivial⟩ ?_ ?_
      · rintro j σ G hj ⟨x9, us, rfl, k1, k2, k3⟩
        obtain ⟨e1, e2, tkG⟩ := hpa5 k1
        have hul := ops_len k3
        rw [opened_len] at hul
        have hjn : j < 5001 := by unfold openN at hj; omega
        refine ⟨.ref o, rfl, .inl ⟨rfl, _, sql k2⟩, _, rfl, _, rfl, m, _, rfl, gg_pa e2, _, rfl, pa, _, _, _, rfl, e1, mps_tk tkG hps6, fun v G6 s6 hv => ?_⟩
        rw [hps5] at hv
        refine ⟨(by show 2 ≤ sizeLine; decide), fun t3 ht3 => ⟨o, us, _, rfl, rfl, same_upd ht3 _ _ (s6 _ _ k2), szl (by omega), ?_⟩⟩
        have ko := s6 _ _ k2
        have n3 : t3 ≠ o := fun z => by rw [z, ko] at ht3; cases ht3
        have up : ∀ {y : Addr} {w : HO}, G6 y = some w → y ≠ o → (upd (upd G6 t3 (.tup [.int (mxI c.fi bs + (j : Int)), v])) o (.lst (us ++ [.ref t3]))) y = some w := fun h n => by
          rw [upd_ne n, upd_ne (ne_of_none h ht3)]
          exact h
        have tkF : TK G6 (upd (upd G6 t3 (.tup [.int (mxI c.fi bs + (j : Int)), v])) o (.lst (us ++ [.ref t3]))) := fun y ys h => up h fun z => by rw [z, ko] at h; cases h
        refine ⟨some (.int (mxI c.fi bs + (j : Int))), us ++ [.ref t3], rfl, fun y w h n => up (s6 _ _ (k1 y w h n)) (by simpa using n), upd_same, ?_⟩
        rw [opened_more]
        refine ops_app (e := (mxI c.fi bs + (j : Int), (bestO (rowsOf rows (mxI c.fi bs + (j : Int)))).2, [])) (.inl ?_) (hv.tk tkF) (ops_tk ((TK.same s6).trans tkF) k3)
        rw [upd_ne n3, upd_same]
      · rintro σ G ⟨x9, us, rfl, k1, k2, k3⟩
        obtain ⟨e1, e2, tkG⟩ := hpa5 k1
        have hul := ops_len k3
        rw [opened_len] at hul
        have hn : openN rows (mxI c.fi bs) ≤ 5001 := by unfold openN; omega
        refine ⟨_, rfl, o, rfl, ⟨_, sql k2⟩, fun D hD => ?_⟩
        refine lc_it (walk_list (K := K) (a := o) (xs := us)) (fun j G1 => Same G G1 ∧ ∃ zs qs, G1 D = some (.lst zs) ∧ (∀ G2, Off D G1 G2 → MOp K G2 zs qs (opened rows (mxI c.fi bs) j)) ∧ qs.Nodup ∧ ∀ q ∈ qs, G q = none ∧ q ≠ D ∧ ∃ w, G1 q = some w)
          ⟨same_upd hD, [], [], upd_same, fun _ _ => trivial, List.nodup_nil, fun _ z => by cases z⟩ (fun j G1 _ h => h.1.seq (sql k2)) ?_ ?_
        · rintro j x G0 G1 hj ⟨sm, zs, qs, ez, hz, ndq, hq⟩ ⟨rfl, hx⟩
          obtain ⟨e, he, t1, v1, rfl, ht1', hv1⟩ := ops_at k3 hx
          refine ⟨rfl, ?_⟩
          dsimp only [tYes]
          refine (if_pos rfl).mpr ?_
          have hj2 : j < openN rows (mxI c.fi bs) := by omega
          have hee : e = (mxI c.fi bs + (j : Int), (bestO (rowsOf rows (mxI c.fi bs + (j : Int)))).2, []) := by
            unfold opened at he
            rw [List.getElem?_map, List.getElem?_range hj2] at he
            exact (Option.some.inj he).symm
          have tk1 := TK.same sm
          have lz := mop_len (hz G1 (Off.refl _ _))
          rw [opened_len] at lz
          refine ⟨_, rfl, t1, _, 0, .int e.1, rfl, rfl, (ht1'.tk tk1).seq, rfl, _, rfl, t1, _, 1, v1, rfl, rfl, (ht1'.tk tk1).seq, rfl, Nat.zero_le _, fun q hq1 => ⟨(by show 3 ≤ sizeLine; decide), fun l hl => ?_⟩⟩
          have nDq : D ≠ q := ne_of_none ez hq1
          have s7 := same_upd (o := .lst []) hq1
          have s8 := s7.trans (same_upd (o := .lst [.int e.1, v1, .ref q]) hl)
          have nDl : D ≠ l := ne_of_none (s7 _ _ ez) hl
          have nql : q ≠ l := fun z => by rw [← z, upd_same] at hl; cases hl
          have hGq : G q = none := by
            cases z : G q with
            | none => rfl
            | some w => rw [sm _ _ z] at hq1; cases hq1
          refine ⟨zs, s8 _ _ ez, szl (by omega), same_put (sm.trans s8) hD, zs ++ [.ref l], qs ++ [q], upd_same, fun G2 off => ?_, List.nodup_append.mpr ⟨ndq, by simp, fun x hx y hy z => ?_⟩, fun x hx => ?_⟩
          · rw [opened_more, ← hee]
            have tk2 : TK G1 G2 := fun y ys h => off y _ (fun z => by rw [z, ez] at h; cases h) (by
              rw [upd_ne (fun z => by rw [z, ez] at h; cases h)]
              exact s8 _ _ h)
            refine mop_app (off l _ nDl.symm (by rw [upd_ne nDl.symm, upd_same])) (hv1.tk (tk1.trans tk2)) ?_ (hz G2 fun y w n h => off y w n (by rw [upd_ne n]; exact s8 _ _ h))
            rw [hee]
            exact off q _ nDq.symm (by rw [upd_ne nDq.symm, upd_ne nql, upd_same]; rfl)
          · rw [List.mem_singleton] at hy
            obtain ⟨_, _, w, hw⟩ := hq x hx
            rw [z, hy, hq1] at hw
            cases hw
          · rcases List.mem_append.mp hx with z | z
            · obtain ⟨a1, a2, w, hw⟩ := hq x z
              exact ⟨a1, a2, w, by rw [upd_ne a2]; exact s8 _ _ hw⟩
            · rw [List.mem_singleton] at z
              subst z
              exact ⟨hGq, nDq.symm, _, by rw [upd_ne nDq.symm, upd_ne nql, upd_same]⟩
        · rintro G1 ⟨sm, zs, qs, ez, hz, ndq, hq⟩
          rw [hul] at hz
          have e2' := sm _ _ e2
          have nDm : D ≠ m := fun z => by rw [z, e2] at hD; cases hD
          have npm2 : pa ≠ m := npm
          have nom : o ≠ m := fun z => by rw [z, e2] at k2; cases k2
          refine ⟨_, rfl, m, _, rfl, pp_oa e2' D, ?_⟩
          refine ⟨_, rfl, _, _, rfl, rfl, _, rfl, m, _, rfl, pp_fr (c := { c with pa := pa, fi := mxI c.fi bs, st := "leading", oa := D }) upd_same (topM rows (mxI c.fi bs) + 1), ?_⟩
          rw [upd_upd]
          have up : ∀ {y : Addr} {w : HO}, G1 y = some w → y ≠ m → (upd G1 m (.dK (stK { c with pa := pa, fi := mxI c.fi bs, st := "leading", oa := D, fr := topM rows (mxI c.fi bs) + 1 }))) y = some w := fun h n => by rw [upd_ne n]; exact h
          have tkE : TK G1 (upd G1 m (.dK (stK { c with pa := pa, fi := mxI c.fi bs, st := "leading", oa := D, fr := topM rows (mxI c.fi bs) + 1 }))) := fun y ys h => up h fun z => by rw [z, e2'] at h; cases h
          have nf : ∀ x, G x = none → H x = none := fun x h => by
            have nm : x ≠ m := fun z => by rw [z, e2] at h; cases h
            have no : x ≠ o := fun z => by rw [z, k2] at h; cases h
            exact fr_none f5 (by simpa using nm) (fr_none k1 (by simpa using no) h)
          refine ⟨_, rfl, q3 o pa D us _ zs qs _ (fun x w hx n => ?_) fpa (up (sm _ _ e1) npm) (mps_tk ((tkG.trans (TK.same sm)).trans tkE) hps6) (up ez nDm) (mop_fr (fun y ys h => up h fun z => by rw [z, e2'] at h; cases h) tkE (hz G1 (Off.refl _ _))) (List.nodup_cons.mpr ⟨fun z => (List.mem_cons.mp z).elim (fun y => by rw [y, hD] at e1; cases e1) (fun y => by rw [(hq pa y).1] at e1; cases e1), List.nodup_cons.mpr ⟨fun z => (hq D z).2.1 rfl, ndq⟩⟩) (fun x hx => ?_) upd_same (up (sm _ _ k2) nom) ?_⟩
          · have nm : x ≠ m := by simpa using n
            have no : x ≠ o := ne_of_none hx fo
            exact up (sm _ _ (k1 _ _ (f5 _ _ hx n) (by simpa using no))) nm
          · rcases List.mem_cons.mp hx with z | z
            · rw [z]
              exact nf D hD
            · exact nf x (hq x z).1
          · exact .lst (sql (up (sm _ _ k2) nom)) (ops_dp (ops_tk ((TK.same sm).trans tkE) k3))
end
theorem pva_ref {K : PySem.W.Frag} {H : Hp} {v : V} {d : PVal} (h : PVA K H v d) : ∃ t, v = .ref t := ⟨h.choose, h.choose_spec.1⟩
theorem lq_ne {K : PySem.W.Frag} {H : Hp} {l q q' : Addr} {n : Int} {v : V} {d : PVal} {is : List Int} (a : H l = some (.lst [.int n, v, .ref q'])) (b : PVA K H v d) (c : H q = some (.lst (is.map V.int))) : l ≠ q := fun z => by
  obtain ⟨t, rfl⟩ := pva_ref b
  rw [z, c] at a
  cases is with
  | nil => cases a
  | cons i is =>
    cases is with
    | nil => cases a
    | cons j is => cases a
theorem mop_at {K : PySem.W.Frag} {H : Hp} : ∀ {xs : List V} {qs : List Addr} {es : List PEnt} {j : Nat} {x : V}, MOp K H xs qs es → xs[j]? = some x → ∃ e q l v, es[j]? = some e ∧ qs[j]? = some q ∧ x = .ref l ∧ H l = some (.lst [.int e.1, v, .ref q]) ∧ PVA K H v e.2.1 ∧ H q = some (.lst (e.2.2.map V.int))
  | [], [], [], j, _, _, h => by simp at h
  | _ :: _, q :: _, e :: _, 0, x, ⟨⟨l, v, a⟩, _⟩, h => by
    simp only [List.getElem?_cons_zero, Option.some.injEq] at h
    subst h
    exact ⟨e, q, l, v, rfl, rfl, a⟩
  | _ :: _, _ :: _, _ :: _, j + 1, x, ⟨_, r⟩, h => by
    obtain ⟨e, q, l, v, h1, h2, h3⟩ := mop_at (j := j) r (by simpa using h)
    exact ⟨e, q, l, v, by simpa using h1, by simpa using h2, h3⟩
/-- all stands but the list at q -/
theorem mop_off {K : PySem.W.Frag} {H G : Hp} {q : Addr} {is : List Int} (hq : H q = some (.lst (is.map V.int))) (k : ∀ x xs, x ≠ q → H x = some (.lst xs) → G x = some (.lst xs)) (t : TK H G) : ∀ {xs : List V} {qs : List Addr} {es : List PEnt}, q ∉ qs → MOp K H xs qs es → MOp K G xs qs es
  | [], [], [], _, _ => trivial
  | _ :: _, q' :: _, _ :: _, n, ⟨⟨l, v, a, b, c, d⟩, r⟩ => ⟨⟨l, v, a, k _ _ (lq_ne b c hq) b, c.tk t, k _ _ (fun z => n (by rw [z]; exact List.mem_cons_self)) d⟩, mop_off hq k t (fun z => n (List.mem_cons_of_mem _ z)) r⟩
theorem mop_vote {K : PySem.W.Frag} {H : Hp} {s i : Int} : ∀ {xs : List V} {qs : List Addr} {es : List PEnt} {j : Nat} {e : PEnt} {q : Addr}, MOp K H xs qs es → qs.Nodup → (es.map (·.1)).Nodup → es[j]? = some e → qs[j]? = some q → e.1 = s →
    ∀ G : Hp, (∀ x xs, x ≠ q → H x = some (.lst xs) → G x = some (.lst xs)) → TK H G → G q = some (.lst ((addV e.2.2 i).map V.int)) → MOp K G xs qs (voteE es s i)
  | [], [], [], j, _, _, _, _, _, h, _, _ => by simp at h
  | _ :: _, q' :: qs, e' :: es, 0, e, q, ⟨⟨l, v, a, b, c, d⟩, r⟩, nd, ne, h1, h2, hs => by
    simp only [List.getElem?_cons_zero, Option.some.injEq] at h1 h2
    subst h1
    subst h2
    intro G k t g
    have nd2 := List.nodup_cons.mp nd
    have ne2 := List.nodup_cons.mp ne
    show MOp K G _ _ ((if e'.1 = s then _ else e') :: voteE es s i)
    rw [if_pos hs, voteE_no (by rw [← hs]; exact ne2.1)]
    exact ⟨⟨l, v, a, k _ _ (lq_ne b c d) b, c.tk t, g⟩, mop_off d k t nd2.1 r⟩
  | _ :: _, q' :: qs, e' :: es, j + 1, e, q, ⟨⟨l, v, a, b, c, d⟩, r⟩, nd, ne, h1, h2, hs => by
    intro G k t g
    have nd2 := List.nodup_cons.mp nd
    have ne2 := List.nodup_cons.mp ne
    have h1' : es[j]? = some e := by simpa using h1
    have h2' : qs[j]? = some q := by simpa using h2
    have hne : e'.1 ≠ s := fun z => ne2.1 (by
      show e'.1 ∈ _
      rw [z, ← hs]
      exact List.mem_map.mpr ⟨e, List.mem_of_getElem? h1', rfl⟩)
    have nq : q' ≠ q := fun z => nd2.1 (by rw [z]; exact List.mem_of_getElem? h2')
    have hqH : ∃ is : List Int, H q = some (.lst (is.map V.int)) := by
      have go : ∀ {xs : List V} {qs : List Addr} {es : List PEnt} {j : Nat}, MOp K H xs qs es → qs[j]? = some q → ∃ is : List Int, H q = some (.lst (is.map V.int)) := by
        intro xs
        induction xs with
        | nil => intro qs es j m h; cases qs <;> cases es <;> first | (simp at h; done) | cases m
        | cons x xs ih =>
          intro qs es j m h
          cases qs with
          | nil => simp at h
          | cons q0 qs =>
            cases es with
            | nil => cases m
            | cons e0 es =>
              cases j with
              | zero =>
                simp only [List.getElem?_cons_zero, Option.some.injEq] at h
                subst h
                exact ⟨_, m.1.choose_spec.choose_spec.2.2.2⟩
              | succ j => exact ih m.2 (by simpa using h)
      exact go r h2'
    obtain ⟨is, hq⟩ := hqH
    show MOp K G _ _ ((if e'.1 = s then _ else e') :: voteE es s i)
    rw [if_neg hne]
    exact ⟨⟨l, v, a, k _ _ (lq_ne b c hq) b, c.tk t, k _ _ nq d⟩, mop_vote r nd2.2 ne2.2 h1' h2' hs G k t g⟩
theorem mop_qlen {K : PySem.W.Frag} {H : Hp} : ∀ {xs : List V} {qs : List Addr} {es : List PEnt}, MOp K H xs qs es → qs.length = xs.length
  | [], [], [], _ => rfl
  | _ :: _, _ :: _, _ :: _, ⟨_, r⟩ => congrArg (· + 1) (mop_qlen r)
theorem inV_ints (k : Int) : ∀ zs : List Int, inV (.int k) (zs.map V.int) = decide (k ∈ zs)
  | [] => rfl
  | z :: zs => by
    have ih := inV_ints k zs
    unfold inV at ih ⊢
    rw [List.map_cons, List.any_cons, ih]
    show ((z == k) || decide (k ∈ zs)) = decide (k ∈ z :: zs)
    by_cases e : k = z
    · subst e
      rw [beq_self_eq_true, Bool.true_or, decide_eq_true List.mem_cons_self]
    · rw [beq_eq_false_iff_ne.mpr (Ne.symm e), Bool.false_or, Bool.eq_iff_iff, decide_eq_true_iff, decide_eq_true_iff, List.mem_cons]
      exact ⟨.inr, fun h => h.resolve_left e⟩
theorem flat_is : ∀ zs : List Int, (zs.map V.int).all flatV = true
  | [] => rfl
  | _ :: zs => flat_is zs
theorem mop_mem {K : PySem.W.Frag} {H : Hp} {xs : List V} {qs : List Addr} {es : List PEnt} (h : MOp K H xs qs es) {x : Addr} (hx : x ∈ qs) : ∃ is : List Int, H x = some (.lst (is.map V.int)) := by
  obtain ⟨j, hj⟩ := List.mem_iff_getElem?.mp hx
  have hjl : j < xs.length := by
    have h1 := mop_qlen h
    have h2 := (List.getElem?_eq_some_iff.mp hj).1
    omega
  obtain ⟨e, q, l, v, _, h2, _, _, _, h6⟩ := mop_at h (List.getElem?_eq_getElem hjl)
  rw [hj] at h2
  cases h2
  exact ⟨_, h6⟩
def sp_laccd (K : PySem.W.Frag) : Sp := fun vs H Q _ => ∃ (m : Addr) (c : MC) (i b s : Int) (xs : List V) (qs : List Addr) (es : List PEnt), vs = [.ref m, .int i, .int b, .int s] ∧ H m = some (.dK (stK c)) ∧ H c.oa = some (.lst xs) ∧ MOp K H xs qs es ∧ (c.oa :: qs).Nodup ∧ (es.map (·.1)).Nodup ∧
  es.length ≤ 1000 ∧ (∀ e ∈ es, e.2.2.length ≤ 100) ∧
  ((c.st ≠ "leading" ∨ b ≠ c.b ∨ s ∉ es.map (·.1)) → Q .non H) ∧
  (¬ (c.st ≠ "leading" ∨ b ≠ c.b ∨ s ∉ es.map (·.1)) → ∀ e ∈ es, e.1 = s → (¬ 2 * ((addV e.2.2 i).length : Int) > c.ct → ∀ H', Fr qs H H' → MOp K H' xs qs (voteE es s i) → Q .non H') ∧
    (2 * ((addV e.2.2 i).length : Int) > c.ct → ∀ (oa : Addr) (ws : List V) (qs' : List Addr) (v : V) (H' : Hp), Fr (m :: qs) H H' → H oa = none → H' oa = some (.lst ws) → MOp K H' ws qs' (dropE es s) → qs'.Sublist qs → H' m = some (.dK (stK { c with oa := oa })) → PVA K H' v e.2.1 → Q v H'))
section
variable {P : Program} {w : World} {K : PySem.W.Frag} {mg : Str → Option Value} {base : Heap}
theorem ok__law_accepted (T : TX K mg) : FnOk P w K mg base CX0 1 T.a__law_accepted T.d__law_accepted ["model", "index", "ballot", "slot"] (sp_laccd K) := by
  refine T.F__law_accepted.ok sc__law_accepted (fun vs H Q E h => ?_) (fun cdv A outer s H vs Q E hr h => ?_)
  · obtain ⟨m, c, i, b, s, xs, qs, es, rfl, _⟩ := h
    rfl
  · obtain ⟨m, c, i, b, sl, xs, qs, es, rfl, hm, ho, hmo, nd, ne, hel, hvl, q1, q2⟩ := h
    refine ⟨_, (pss_cons (ps_if (PW.pt (pw_or (pt_cmpR op_ne (pe_dget (hu_of hr) (pv 0) pe_str (fun _ _ => rfl)) pe_str (nomark _)) (pw_or1 (pt_cmpR op_ne (pv 2) (pe_dget (hu_of hr) (pv 0) pe_str (fun _ _ => rfl)) (nomark _))))) (pss_one (ps_ret pe_non)) pss_nil)
      (pss_cons (ps_for PassesOwn.never rfl (pi_list (pe_dget (hu_of hr) (pv 0) pe_str (fun _ _ => rfl))) (pg_name (i := 4) sc__law_accepted.nd rfl (Or.inl rfl))
        (pss_one (ps_if (pt_cmpR op_eq (pe_ix ix_list (pv 4) pe_int (fun _ _ => rfl)) (pv 3) (nomark _)) (C8.pss_cut (ps_if (pt_cmpR op_notIn_seq (pv 1) (pe_ix ix_list (pv 4) pe_int (fun _ _ => rfl)) rfl) (pss_one (ps_expr (pe_bm PySem.F.plainAttrs_list PySem.F.slot_list_append PySem.F.type_list_append mt_append (pe_ix ix_list (pv 4) pe_int (fun _ _ => rfl)) (pa_cons (pv 1) pa_nil)))) pss_nil)
          (pss_one (ps_if (pt_cmpR op_gt (pe_op op_mul pe_int (pe_callB call_len_seq (by rfl) T.n_len PySem.boot_len (pa_cons (pe_ix ix_list (pv 4) pe_int (fun _ _ => rfl)) pa_nil))) (pe_dget (hu_of hr) (pv 0) pe_str (fun _ _ => rfl)) (nomark _)) (pss_cons (ps_dput (hu_of hr) (pv 0) pe_str (pe_lc (own := [("other", 5)]) (g := gName 5)  (by rfl) sc__law_accepted.nd (pi_list (pe_dget (hu_of hr) (pv 0) pe_str (fun _ _ => rfl))) (blkOk_by (own := [("other", 5)]) (N := ["model", "index", "ballot", "slot", "one", "other"]) (sc := defScope s__law_accepted) (by decide +kernel)) (fun _ _ _ _ _ => pg_name (i := 5) sc__law_accepted.nd rfl (Or.inl rfl)) (fun _ _ _ _ _ => pts_one (pt_cmpR op_ne (pe_ix (ixK_list (K := K) rfl) (pv 5) pe_int (fun _ _ => rfl)) (pv 3) (nomark _))) (fun _ _ _ _ _ => (pv 5))) rfl)
            (pss_one (ps_ret (pe_ix ix_list (pv 4) pe_int (fun _ _ => rfl))))) pss_nil))) pss_nil)))
      (pss_one (ps_ret pe_non)))), ?_⟩
    refine ⟨_, rfl, m, _, rfl, gg_st hm, rfl, _, rfl, ?_⟩
    refine ifb2 (fun hc => ifbt rfl (q1 (.inl fun z => by rw [z] at hc; revert hc; decide +kernel))) fun hc => ?_
    have hst : c.st = "leading" := Decidable.byContradiction fun z => by
      rw [decide_eq_false (fun y => z (V.str.inj y))] at hc
      cases hc
    refine ⟨_, rfl, _, rfl, m, _, rfl, gg_b hm, rfl, _, rfl, ?_⟩
    refine ifb2 (fun hc2 => q1 (.inr (.inl fun z => by rw [z] at hc2; simp at hc2))) fun hc2 => ?_
    have hb : b = c.b := Decidable.byContradiction fun z => by
      rw [decide_eq_false (fun y => z (V.int.inj y))] at hc2
      cases hc2
    have q2 : sl ∈ es.map (·.1) → _ := fun z => q2 fun y => y.elim (fun q => q hst) fun y => y.elim (fun q => q hb) fun q => q z
    have q1 : sl ∉ es.map (·.1) → _ := fun z => q1 (.inr (.inr z))
    have ndq := List.nodup_cons.mp nd
    refine ⟨_, rfl, m, _, rfl, gg_oa hm, c.oa, rfl, ⟨_, sql ho⟩, ?_⟩
    have nmq : m ∉ qs := fun z => by
      obtain ⟨j, hj⟩ := List.mem_iff_getElem?.mp z
      have hjl : j < xs.length := by
        have h1 := mop_qlen hmo
        have h2 := (List.getElem?_eq_some_iff.mp hj).1
        omega
      obtain ⟨e, q, l, v, _, h2, _, _, _, h6⟩ := mop_at hmo (List.getElem?_eq_getElem hjl)
      rw [hj] at h2
      cases h2
      rw [hm] at h6
      cases h6
    have hlx := mop_len hmo
    refine for_list (K := K) (a := c.oa) (xs := xs) (fun j σ G => ∃ x4, σ = [some (.ref m), some (.int i), some (.int b), some (.int sl), x4, none] ∧ ((sl ∉ (es.take j).map (·.1) ∧ H = G) ∨ (sl ∈ (es.take j).map (·.1) ∧ Fr qs H G ∧ MOp K G xs qs (voteE es sl i) ∧ Q .non G)))
      ⟨none, rfl, .inl ⟨by simp, rfl⟩⟩ (fun j σ G _ h => ?_) ?_ ?_
    · obtain ⟨x4, _, ⟨_, rfl⟩ | ⟨_, k, _⟩⟩ := h
      · exact sql ho
      · exact sql (k _ _ ho ndq.1)
    · rintro j x σ G hx ⟨x4, rfl, ⟨hn, rfl⟩ | ⟨hn, k, hmv, hq⟩⟩
      · obtain ⟨e, q, l, v, he, hqj, rfl, hl, hv, hqH⟩ := mop_at hmo hx
        have htk : (es.take (j + 1)).map (·.1) = (es.take j).map (·.1) ++ [e.1] := by rw [take_more he, List.map_append]; rfl
        refine ⟨_, rfl, l, _, 0, .int e.1, rfl, rfl, sql hl, rfl, _, rfl, rfl, _, rfl, ifd (fun hs => ?_) (fun hs => ?_)⟩
        · have hs : e.1 = sl := V.int.inj hs
          have hem := List.mem_of_getElem? he
          obtain ⟨q2, q3⟩ := q2 (List.mem_map.mpr ⟨e, hem, hs⟩) e hem hs
          have nlq := lq_ne hl hv hqH
          have hqm := List.mem_of_getElem? hqj
          refine ⟨fun σ' G => σ' = [some (.ref m), some (.int i), some (.int b), some (.int sl), some (.ref l), none] ∧ Fr qs H G ∧ MOp K G xs qs (voteE es sl i) ∧ G l = some (.lst [.int e.1, v, .ref q]) ∧ G q = some (.lst ((addV e.2.2 i).map V.int)) ∧ TK H G, ?_, ?_⟩
          · refine ⟨_, rfl, _, rfl, l, _, 2, .ref q, rfl, rfl, sql hl, rfl, q, _, rfl, .inl (sql hqH), rfl, flat_is _, _, rfl, ?_⟩
            rw [inV_ints]
            refine ifb2 (fun hc3 => ?_) (fun hc3 => ?_)
            · have hni : i ∉ e.2.2 := fun z => by
                simp [z] at hc3
              refine ⟨_, rfl, l, _, 2, .ref q, rfl, rfl, sql hl, rfl, .inl ⟨rfl, _, sql hqH⟩, _, rfl, q, _, _, rfl, rfl, hqH, szl (by have := hvl e hem; rw [List.length_map]; omega), ?_⟩
              have ea : e.2.2.map V.int ++ [V.int i] = (addV e.2.2 i).map V.int := by unfold addV; rw [if_neg hni, List.map_append]; rfl
              rw [ea]
              have tk : TK H (upd H q (.lst ((addV e.2.2 i).map V.int))) := fun y ys h => by
                rw [upd_ne (fun z => by rw [z, hqH] at h; cases h)]
                exact h
              exact ⟨rfl, (Fr.refl _ _).up hqm, mop_vote hmo ndq.2 ne he hqj hs _ (fun y ys n h => by rw [upd_ne n]; exact h) tk upd_same, by rw [upd_ne nlq]; exact hl, upd_same, tk⟩
            · have hi : i ∈ e.2.2 := Decidable.byContradiction fun z => by
                simp [z] at hc3
              have ea : addV e.2.2 i = e.2.2 := if_pos hi
              exact ⟨rfl, Fr.refl _ _, mop_vote hmo ndq.2 ne he hqj hs _ (fun y ys n h => h) (fun _ _ h => h) (by rw [ea]; exact hqH), hl, by rw [ea]; exact hqH, fun _ _ h => h⟩
          · rintro σ G ⟨rfl, k, hmv, hl2, hq2, tk⟩
            refine ⟨_, rfl, l, _, 2, .ref q, rfl, rfl, sql hl2, rfl, q, _, rfl, .inl (sql hq2), _, _, rfl, rfl, (.inl ⟨by decide, by decide⟩), _, rfl, m, _, rfl, gg_ct (k _ _ hm nmq), _, _, rfl, rfl, _, rfl, ?_⟩
            rw [List.length_map]
            refine ifd (fun hx2 => ?_) (fun hx2 => ?_)
            · have q3 := q3 hx2
              have oq := k _ _ ho ndq.1
              have hm2 := k _ _ hm nmq
              refine ⟨_, rfl, m, _, rfl, gg_oa hm2, c.oa, rfl, ⟨_, sql oq⟩, fun D hD => ?_⟩
              refine lc_it (walk_list (K := K) (a := c.oa) (xs := xs)) (fun j G1 => Same G G1 ∧ ∃ zs qs', G1 D = some (.lst zs) ∧ MOp K G zs qs' (dropE ((voteE es sl i).take j) sl) ∧ qs'.Sublist (qs.take j))
                ⟨same_upd hD, [], [], upd_same, trivial, List.nil_sublist _⟩ (fun j G1 _ h => h.1.seq (sql oq)) ?_ ?_
              · rintro j2 x G0 G1 hj2 ⟨sm, zs, qs', ez, hz, hsub⟩ ⟨rfl, hx3⟩
                obtain ⟨e3, q3', l3, v3, he3, hq3, rfl, hl3, hv3, hqH3⟩ := mop_at hmv hx3
                have hst2 : (voteE es sl i).take (j2 + 1) = (voteE es sl i).take j2 ++ [e3] := take_more he3
                have hqt : qs.take (j2 + 1) = qs.take j2 ++ [q3'] := take_more hq3
                have hzl : zs.length ≤ 1000 := by
                  rw [mop_len hz]
                  have h1 := List.length_filter_le (fun e : PEnt => decide (e.1 ≠ sl)) ((voteE es sl i).take j2)
                  have h2 : ((voteE es sl i).take j2).length ≤ es.length := by
                    rw [List.length_take]
                    unfold voteE
                    rw [List.length_map]
                    omega
                  unfold dropE
                  omega
                refine ⟨rfl, ?_⟩
                refine ⟨_, rfl, l3, _, 0, .int e3.1, rfl, rfl, sql (sm _ _ hl3), rfl, _, rfl, rfl, _, rfl, ?_⟩
                unfold dropE at hz ⊢
                rw [hst2, List.filter_append, hqt]
                by_cases h5 : e3.1 = sl
                · refine (if_neg (by rw [decide_eq_true (congrArg V.int h5)]; decide)).mpr ⟨sm, zs, qs', ez, ?_, hsub.trans (List.sublist_append_left _ _)⟩
                  rw [List.filter_cons_of_neg (by simp [h5]), List.filter_nil, List.append_nil]
                  exact hz
                · refine (if_pos (by rw [decide_eq_false (fun y => h5 (V.int.inj y))]; rfl)).mpr ⟨_, rfl, zs, ez, szl (by omega), same_put sm hD, _, qs' ++ [q3'], upd_same, ?_, hsub.append (List.Sublist.refl _)⟩
                  rw [List.filter_cons_of_pos (by simp [h5]), List.filter_nil]
                  exact mop_app hl3 hv3 hqH3 hz
              · rintro G1 ⟨sm, zs, qs', ez, hz, hsub⟩
                have hvl2 : (voteE es sl i).length = xs.length := by unfold voteE; rw [List.length_map, hlx]
                rw [List.take_of_length_le (Nat.le_of_eq hvl2), dropE_vote] at hz
                have hm3 := sm _ _ hm2
                have nDm : D ≠ m := fun z => by rw [z, hm2] at hD; cases hD
                have nlm : l ≠ m := fun z => by rw [z, hm2] at hl2; cases hl2
                refine ⟨_, rfl, m, _, rfl, pp_oa hm3 D, ?_⟩
                have up : ∀ {y : Addr} {w : HO}, G1 y = some w → y ≠ m → (upd G1 m (.dK (stK { c with oa := D }))) y = some w := fun h n => by rw [upd_ne n]; exact h
                have tkE : TK G1 (upd G1 m (.dK (stK { c with oa := D }))) := fun y ys h => up h fun z => by rw [z, hm3] at h; cases h
                have hfD : H D = none := by
                  cases z : H D with
                  | none => rfl
                  | some w =>
                    by_cases hDq : D ∈ qs
                    · obtain ⟨is, h7⟩ := mop_mem hmv hDq
                      rw [h7] at hD
                      cases hD
                    · rw [k _ _ z hDq] at hD
                      cases hD
                refine ⟨_, rfl, l, _, 1, v, rfl, rfl, sql (up (sm _ _ hl2) nlm), rfl, ?_⟩
                refine q3 D zs qs' v _ (fun y w h n => ?_) hfD (up ez nDm) (mop_fr (fun y ys h => up (sm _ _ h) fun z => by rw [z, hm2] at h; cases h) ((TK.same sm).trans tkE) hz) (hsub.trans (List.take_sublist _ _)) upd_same (hv.tk ((tk.trans (TK.same sm)).trans tkE))
                simp only [List.mem_cons, not_or] at n
                exact up (sm _ _ (k _ _ h n.2)) n.1
            · refine ⟨some (.ref l), rfl, .inr ⟨?_, k, hmv, q2 hx2 G k hmv⟩⟩
              rw [htk, List.mem_append, List.mem_singleton]
              exact .inr hs.symm
        · have hs : ¬ e.1 = sl := fun z => hs (congrArg V.int z)
          refine ⟨some (.ref l), rfl, .inl ⟨?_, rfl⟩⟩
          rw [htk, List.mem_append, List.mem_singleton]
          exact fun z => z.elim hn fun z => hs z.symm
      · obtain ⟨e, q, l, v, he, hqj, rfl, hl, hv, hqH⟩ := mop_at hmv hx
        have hej : ∃ e0, es[j]? = some e0 ∧ e0.1 = e.1 := by
          unfold voteE at he
          rw [List.getElem?_map] at he
          cases z : es[j]? with
          | none => rw [z] at he; cases he
          | some e0 =>
            rw [z] at he
            cases he
            exact ⟨e0, rfl, by show e0.1 = (if e0.1 = sl then ((e0.1, e0.2.1, addV e0.2.2 i) : PEnt) else e0).1; split <;> rfl⟩
        obtain ⟨e0, he0, e01⟩ := hej
        have htk : (es.take (j + 1)).map (·.1) = (es.take j).map (·.1) ++ [e0.1] := by rw [take_more he0, List.map_append]; rfl
        have hsl : ¬ e.1 = sl := fun z => by
          have h1 : ((es.take (j + 1)).map (·.1)).Nodup := ne.sublist ((List.take_sublist _ _).map _)
          rw [htk, e01, z] at h1
          exact (List.nodup_append.mp h1).2.2 sl hn sl (by simp) rfl
        refine ⟨_, rfl, l, _, 0, .int e.1, rfl, rfl, sql hl, rfl, _, rfl, rfl, _, rfl, ifd (fun hs => absurd (V.int.inj hs) hsl) (fun hs => ?_)⟩
        refine ⟨some (.ref l), rfl, .inr ⟨?_, k, hmv, hq⟩⟩
        rw [htk, List.mem_append]
        exact .inl hn
    · rintro σ G ⟨x4, rfl, ⟨hn, rfl⟩ | ⟨hn, k, hmv, hq⟩⟩
      · rw [hlx, List.take_length] at hn
        exact q1 hn
      · exact hq
end
/-! the frames between the two sides -/
/-- a thing of the law's side: a list, or a dict with a text among its keys -/
def ownV (s : Int) : PVal := [Sum.inr "own", Sum.inl s]
/-- a thing of the law's side: a list, or a dict with a text among its keys -/
def LawO (H : Hp) (x : Addr) : Prop := (∃ xs, H x = some (.lst xs)) ∨ (∃ c : MC, H x = some (.dK (stK c))) ∨ H x = none
theorem lawO_no {H : Hp} {x : Addr} {o : HO} (h : LawO H x) (e : H x = some o) : isPr o = false ∧ ∀ xs, o ≠ .tup xs := by
  rcases h with ⟨xs, q⟩ | ⟨c, q⟩ | q
  · rw [q] at e
    cases e
    exact ⟨rfl, fun _ z => by cases z⟩
  · rw [q] at e
    cases e
    exact ⟨rfl, fun _ z => by cases z⟩
  · rw [q] at e
    cases e
/-- a step of the law's own lets the proposer stand -/
theorem Pr.mfr {C : Addr} {K : PySem.W.Frag} {H H' : Hp} {p : Addr} {f : PF} {ps : List (Int × List PRow)} {es : List PEnt} {L : List Addr} (h : Pr C K H p f ps es) (k : Fr L H H') (n : ∀ x ∈ L, LawO H x) : Pr C K H' p f ps es := by
  obtain ⟨dP, dO, dV, dvs, ⟨dx, ob⟩, ⟨kP, eP, aP⟩, ⟨kO, eO, aO⟩, ⟨kV, eV, aV⟩, nd⟩ := h
  have up : ∀ {x : Addr} {o : HO}, H x = some o → isPr o = true → H' x = some o := fun {x o} e i => k x o e fun z => by
    rw [(lawO_no (n x z) e).1] at i
    cases i
  have tk : TK H H' := fun t xs e => k t _ e fun z => (lawO_no (n t z) e).2 xs rfl
  refine ⟨dP, dO, dV, dvs, ⟨dx, up ob rfl⟩, ⟨kP, up eP (ps_int aP), ps_tk tk aP⟩, ⟨kO, up eO (op_int aO), op_tk tk aO⟩, ⟨kV, up eV (vo_int aV), vo_fr (fun d hd o e => ?_) aV⟩, nd⟩
  obtain ⟨is, q⟩ := vo_there aV d hd
  rw [q] at e
  cases e
  exact up q (voK_int is)
/-- what the law keeps -/
structure MW (K : PySem.W.Frag) (H : Hp) (m : Addr) (c : MC) (ps : List (Int × List PRow)) (es : List PEnt) (qs : List Addr) : Prop where
  hm : H m = some (.dK (stK c))
  hp : ∃ xs, H c.pa = some (.lst xs) ∧ MPs K H xs ps
  ho : ∃ ws, H c.oa = some (.lst ws) ∧ MOp K H ws qs es
  nd : (c.pa :: c.oa :: qs).Nodup
theorem MW.fp {K : PySem.W.Frag} {H H' : Hp} {m : Addr} {c : MC} {ps : List (Int × List PRow)} {es : List PEnt} {qs : List Addr} (h : MW K H m c ps es qs) (k : FP H H') : MW K H' m c ps es qs := by
  obtain ⟨hm, ⟨xs, e1, h1⟩, ⟨ws, e2, h2⟩, nd⟩ := h
  exact ⟨k _ _ hm rfl, ⟨xs, k _ _ e1 rfl, mps_tk k.tk h1⟩, ⟨ws, k _ _ e2 rfl, mop_fr (fun x xs e => k _ _ e rfl) k.tk h2⟩, nd⟩
theorem MW.lawO {K : PySem.W.Frag} {H : Hp} {m : Addr} {c : MC} {ps : List (Int × List PRow)} {es : List PEnt} {qs : List Addr} (h : MW K H m c ps es qs) : ∀ x ∈ m :: c.oa :: qs, LawO H x := fun x hx => by
  obtain ⟨hm, _, ⟨ws, e2, h2⟩, _⟩ := h
  rcases List.mem_cons.mp hx with z | z
  · rw [z]
    exact .inr (.inl ⟨c, hm⟩)
  · rcases List.mem_cons.mp z with z | z
    · rw [z]
      exact .inl ⟨_, e2⟩
    · obtain ⟨is, q⟩ := mop_mem h2 z
      exact .inl ⟨_, q⟩
/-! the two next ballots -/
theorem beg_next {above ix ct : Int} (h0 : 0 ≤ above) (h1 : 1 ≤ ct) (h5 : ct ≤ 5) (i0 : 0 ≤ ix) (i1 : ix < ct) : upN ct ix (above + 1) 5 = nextB above ix ct := by
  have e : ct = 1 ∨ ct = 2 ∨ ct = 3 ∨ ct = 4 ∨ ct = 5 := by omega
  unfold nextB upN upN upN upN upN upN upB
  rcases e with rfl | rfl | rfl | rfl | rfl <;> (repeat' split) <;> omega
/-- the slots that are opened: from -1 on or from first - 1 on -/
theorem top_two {rows : List PRow} {f : Int} (hf : 0 ≤ f) (h0 : ∀ r ∈ rows, 0 ≤ r.1) : openN rows f = (topR rows + 1 - f).toNat := by
  have go : ∀ (rows : List PRow) (a b : Int), a ≤ b → ((a = b) ∨ (a < f ∧ b = f - 1)) → (∀ r ∈ rows, 0 ≤ r.1) → (let x := rows.foldl (fun m r => if r.1 > m then r.1 else m) a; let y := rows.foldl (fun m r => mxI m r.1) b; (x = y) ∨ (x < f ∧ y = f - 1)) := fun rows => by
    induction rows with
    | nil => intro a b _ h _; exact h
    | cons r rows ih =>
      intro a b hab h hr
      refine ih _ _ ?_ ?_ fun y hy => hr y (List.mem_cons_of_mem _ hy)
      · show (if r.1 > a then r.1 else a) ≤ (if r.1 > b then r.1 else b)
        split <;> split <;> omega
      · show (if r.1 > a then r.1 else a) = (if r.1 > b then r.1 else b) ∨ (if r.1 > a then r.1 else a) < f ∧ (if r.1 > b then r.1 else b) = f - 1
        rcases h with h | ⟨h1, h2⟩
        · rw [h]
          exact .inl rfl
        · have hr0 := hr r List.mem_cons_self
          split <;> split <;> omega
  have h := go rows (-1) (f - 1) (by omega) (by omega) h0
  unfold openN topM topR
  rcases h with h | ⟨h1, h2⟩
  · rw [h]
  · omega
theorem mop_noint {K : PySem.W.Frag} {H : Hp} {n : Int} {xs : List V} : ∀ {qs : List Addr} {es : List PEnt}, ¬ MOp K H (V.int n :: xs) qs es
  | [], [], h => h
  | [], _ :: _, h => h
  | _ :: _, [], h => h
  | _ :: _, _ :: _, ⟨⟨_, _, z, _⟩, _⟩ => by cases z
theorem mop_put {K : PySem.W.Frag} {H G : Hp} {a : Addr} (k : ∀ x ys, x ≠ a → H x = some (.lst ys) → G x = some (.lst ys)) (t : TK H G) : ∀ {xs : List V} {qs : List Addr} {es : List PEnt}, a ∉ qs → (∀ n v q, H a ≠ some (.lst [.int n, v, .ref q])) → MOp K H xs qs es → MOp K G xs qs es
  | [], [], [], _, _, _ => trivial
  | _ :: _, q' :: _, _ :: _, n, m, ⟨⟨l, v, e, b, c, d⟩, r⟩ => ⟨⟨l, v, e, k _ _ (fun z => m _ _ _ (by rw [← z]; exact b)) b, c.tk t, k _ _ (fun z => n (by rw [← z]; exact List.mem_cons_self)) d⟩, mop_put k t (fun z => n (List.mem_cons_of_mem _ z)) m r⟩
def POk (d : PVal) : Prop := ∀ k ∈ d, Flat 0 (kD k)
theorem pok_own (s : Int) : POk (ownV s) := fun k hk => by
  rcases List.mem_cons.mp hk with rfl | hk
  · exact flat_str 0 "own"
  · rw [List.mem_singleton] at hk
    rw [hk]
    exact flat_int 0 _
/-- the numbers and texts of both sides, behind n events -/
structure Nums (f : PF) (c : MC) (ps : List (Int × List PRow)) (es : List PEnt) (n : Nat) : Prop where
  b : c.b = f.b
  st : c.st = f.st
  ct : c.ct = f.ct
  ix : c.ix = f.ix
  mx : mxI c.b c.sn = mxI f.sn f.b
  b0 : 0 ≤ f.b
  ct1 : 1 ≤ c.ct ∧ c.ct ≤ 5
  ix1 : 0 ≤ c.ix ∧ c.ix < c.ct
  idle : c.st ≠ "leading" → es = []
  prep : c.st = "preparing" → c.fi = f.nx ∧ 1 ≤ n
  lead : c.st = "leading" → c.fr = f.nx ∧ es.length ≤ n + 3
  fn : c.fi ≤ f.nx
  fi : 0 ≤ c.fi ∧ c.fi ≤ 3 + 2 * (n : Int)
  nx : 0 ≤ f.nx ∧ f.nx ≤ 10 + 3 * (n : Int)
  rg : ∀ r ∈ ps.flatMap (·.2), 0 ≤ r.1 ∧ r.1 ≤ c.fi + 4
  pk : (ps.map (·.1)).Nodup
  pl : ps.length ≤ n
  rl : (ps.flatMap (·.2)).length ≤ 3 * n
  sl : (es.map (·.1)).Pairwise (· < ·)
  se : ∀ e ∈ es, e.1 < f.nx ∧ e.2.2.length ≤ n
  rk : ∀ r ∈ ps.flatMap (·.2), POk r.2.2
  ek : ∀ e ∈ es, POk e.2.1
theorem nums_idle {f : PF} {c : MC} {ps : List (Int × List PRow)} {es : List PEnt} {n : Nat} {oa : Addr} (h : Nums f c ps es n) : Nums { f with st := "idle" } { c with st := "idle", oa := oa } ps [] (n + 1) where
  b := h.b
  st := rfl
  ct := h.ct
  ix := h.ix
  mx := h.mx
  b0 := h.b0
  ct1 := h.ct1
  ix1 := h.ix1
  idle := fun _ => rfl
  prep := fun z => absurd (show Str.ofString "idle" = Str.ofString "preparing" from z) (by decide +kernel)
  lead := fun z => absurd (show Str.ofString "idle" = Str.ofString "leading" from z) (by decide +kernel)
  fn := h.fn
  fi := ⟨h.fi.1, by have := h.fi.2; show c.fi ≤ _; omega⟩
  nx := ⟨h.nx.1, by have := h.nx.2; show f.nx ≤ _; omega⟩
  rg := h.rg
  pk := h.pk
  pl := Nat.le_succ_of_le h.pl
  rl := by have := h.rl; omega
  sl := List.Pairwise.nil
  se := fun _ z => by cases z
  rk := h.rk
  ek := fun _ z => by cases z
theorem nums_up {f : PF} {c : MC} {ps : List (Int × List PRow)} {es : List PEnt} {n : Nat} (h : Nums f c ps es n) : Nums f c ps es (n + 1) :=
  { h with
    prep := fun z => ⟨(h.prep z).1, Nat.succ_le_succ (Nat.zero_le _)⟩
    lead := fun z => ⟨(h.lead z).1, by have := (h.lead z).2; omega⟩
    fi := ⟨h.fi.1, by have := h.fi.2; omega⟩
    nx := ⟨h.nx.1, by have := h.nx.2; omega⟩
    pl := Nat.le_succ_of_le h.pl
    rl := by have := h.rl; omega
    se := fun e he => ⟨(h.se e he).1, Nat.le_succ_of_le (h.se e he).2⟩ }
theorem nums_own {f : PF} {c : MC} {ps : List (Int × List PRow)} {es : List PEnt} {n : Nat} {d : PVal} (h : Nums f c ps es n) (hl : c.st = "leading") (hd : POk d) : Nums { f with nx := f.nx + 1 } { c with fr := f.nx + 1 } ps (es ++ [(f.nx, d, [])]) (n + 1) :=
  { b := h.b, st := h.st, ct := h.ct, ix := h.ix, mx := h.mx, b0 := h.b0, ct1 := h.ct1, ix1 := h.ix1, rg := h.rg, pk := h.pk
    idle := fun z => absurd hl z
    prep := fun z => absurd (show Str.ofString "leading" = Str.ofString "preparing" from hl.symm.trans z) (by decide +kernel)
    lead := fun _ => ⟨rfl, by have := (h.lead hl).2; rw [List.length_append]; simp only [List.length_cons, List.length_nil]; omega⟩
    fn := by have := h.fn; show c.fi ≤ f.nx + 1; omega
    fi := ⟨h.fi.1, by have := h.fi.2; show c.fi ≤ _; omega⟩
    nx := by have := h.nx; show 0 ≤ f.nx + 1 ∧ f.nx + 1 ≤ _; omega
    pl := Nat.le_succ_of_le h.pl
    rl := by have := h.rl; omega
    sl := by
      rw [List.map_append]
      refine List.pairwise_append.mpr ⟨h.sl, by simp, fun x hx y hy => ?_⟩
      obtain ⟨e, he, rfl⟩ := List.mem_map.mp hx
      simp only [List.map_cons, List.map_nil, List.mem_singleton] at hy
      rw [hy]
      exact (h.se e he).1
    se := fun e he => by
      rcases List.mem_append.mp he with z | z
      · have := h.se e z
        exact ⟨by show e.1 < f.nx + 1; omega, by omega⟩
      · rw [List.mem_singleton] at z
        rw [z]
        exact ⟨by show f.nx < f.nx + 1; omega, Nat.zero_le _⟩
    rk := h.rk
    ek := fun e he => by
      rcases List.mem_append.mp he with z | z
      · exact h.ek e z
      · rw [List.mem_singleton] at z
        rw [z]
        exact hd }
structure WK (C : Addr) (K : PySem.W.Frag) (H : Hp) (p m o : Addr) (ds : List Int) (f : PF) (c : MC) (ps : List (Int × List PRow)) (es : List PEnt) (qs : List Addr) (n : Nat) : Prop where
  pr : Pr C K H p f ps es
  mw : MW K H m c ps es qs
  no : o ∉ c.oa :: qs
  hd : H o = some (.lst (ds.map V.int))
  nu : Nums f c ps es n
def sp_lother (C : Addr) (K : PySem.W.Frag) : Sp := fun vs H Q _ => ∃ (p m o : Addr) (k s : Int) (ds : List Int) (f : PF) (c : MC) (ps : List (Int × List PRow)) (es : List PEnt) (qs : List Addr) (n : Nat), vs = [.ref p, .ref m, .int k, .int s] ∧ WK C K H p m o ds f c ps es qs n ∧ n ≤ 59 ∧
  ∀ (f' : PF) (c' : MC) (es' : List PEnt) (qs' : List Addr) (H' : Hp), WK C K H' p m o ds f' c' ps es' qs' (n + 1) → Q (.bl true) H'
section
variable {P : Program} {w : World} {K : PySem.W.Frag} {mg : Str → Option Value} {base : Heap}
theorem ok__law_other (T : TX K mg) : FnOk P w K mg base CX0 3 T.a__law_other T.d__law_other ["proposer", "model", "kind", "slot"] (sp_lother T.a_Proposer K) := by
  refine T.F__law_other.ok sc__law_other (fun vs H Q E h => ?_) (fun cdv A outer s H vs Q E hr h => ?_)
  · obtain ⟨p, m, o, k, s, ds, f, c, ps, es, qs, n, rfl, _⟩ := h
    rfl
  · obtain ⟨p, m, o, k, sl, ds, f, c, ps, es, qs, n, rfl, hW, hn, q⟩ := h
    refine ⟨_, (pss_cons (ps_if (pt_cmpR op_eq (pv 2) pe_int (nomark _)) (pss_cons (ps_set (i := 4) sc__law_other.nd rfl (Or.inl rfl) (pe_un un_neg pe_int))
        (C8.pss_cut (ps_if (pt_cmpR op_eq (pe_dget (hu_of hr) (pv 1) pe_str (fun _ _ => rfl)) pe_str (nomark _)) (pss_cons (ps_set (i := 4) sc__law_other.nd rfl (Or.inl rfl) (pe_dget (hu_of hr) (pv 1) pe_str (fun _ _ => rfl)))
          (pss_cons (ps_expr (pe_bm PySem.F.plainAttrs_list PySem.F.slot_list_append PySem.F.type_list_append mt_append (pe_dget (hu_of hr) (pv 1) pe_str (fun _ _ => rfl)) (pa_cons (pe_lst (pa_cons (pv 4) (pa_cons (pe_tup (pa_cons pe_str (pa_cons (pv 3) pa_nil))) (pa_cons (pe_lst pa_nil) pa_nil)))) pa_nil)))
          (pss_one (ps_dput (hu_of hr) (pv 1) pe_str (pe_op op_add (pv 4) pe_int) rfl)))) pss_nil)
        (pss_cons (ps_set (i := 5) sc__law_other.nd rfl (Or.inl rfl) (pe_meth (pv 0) T.K_Proposer T.m_Proposer_propose (ok_Proposer_propose T) (hr.mono (by decide)) T.b_Proposer_propose .nil pass0 (pa_cons (pe_tup (pa_cons pe_str (pa_cons (pv 3) pa_nil))) pa_nil)))
        (pss_one (ps_ret (pe_and (pe_callB call_isi (by rfl) T.n_isinstance (by decide +kernel) (pa_cons (pv 5) (pa_cons (pe_bltn (v := .ty "int") (u := .type "int") (by rfl) T.n_int (by decide +kernel) rfl) pa_nil))) (pe_and (pe_not (pe_callB call_isi (by rfl) T.n_isinstance (by decide +kernel) (pa_cons (pv 5) (pa_cons (pe_bltn (v := .ty "bool") (u := .type "bool") (by rfl) T.n_bool (by decide +kernel) rfl) pa_nil)))) (pe_one (pe_cmpR op_eq (pv 5) (pv 4) (nomark _)))))))))) pss_nil)
      (pss_cons (ps_expr (pe_meth0 (pv 0) T.K_Proposer T.m_Proposer_stop (ok_Proposer_stop T) (hr.mono (by decide)) T.b_Proposer_stop .nil pass0))
      (pss_cons (ps_dput (hu_of hr) (pv 1) pe_str pe_str rfl)
      (pss_cons (ps_dput (hu_of hr) (pv 1) pe_str (pe_lst pa_nil) rfl)
      (pss_one (ps_ret pe_bl)))))), ?_⟩
    obtain ⟨hpr, hmw, hno, hd, hnu⟩ := hW
    refine ⟨_, rfl, rfl, _, rfl, ifd (fun hk => ?_) (fun hk => ?_)⟩
    · refine ⟨_, rfl, ?_⟩
      obtain ⟨ws, eo, ho⟩ := hmw.ho
      refine ⟨fun σ' G => ∃ due : Int, σ' = [some (.ref p), some (.ref m), some (.int k), some (.int sl), some (.int due), none] ∧ ((c.st ≠ "leading" ∧ due = -1 ∧ H = G) ∨ (c.st = "leading" ∧ due = c.fr ∧ ∃ q, Fr (m :: c.oa :: qs) H G ∧ H q = none ∧ MW K G m { c with fr := c.fr + 1 } ps (es ++ [(c.fr, ownV sl, [])]) (qs ++ [q]))), ?_, ?_⟩
      · refine ⟨_, rfl, m, _, rfl, gg_st hmw.hm, rfl, _, rfl, ifd (fun hl => ?_) (fun hl => ⟨-1, rfl, .inl ⟨fun z => hl (congrArg V.str z), rfl, rfl⟩⟩)⟩
        have hst : c.st = "leading" := V.str.inj hl
        refine ⟨_, rfl, m, _, rfl, gg_fr hmw.hm, _, rfl, m, _, rfl, gg_oa hmw.hm, .inl ⟨rfl, _, sql eo⟩, _, rfl, _, rfl, (by show 2 ≤ sizeLine; decide), fun t ht => ⟨Nat.zero_le _, fun q hq => ⟨(by show 3 ≤ sizeLine; decide), fun l hl => ?_⟩⟩⟩
        obtain ⟨xs, ep, hps⟩ := hmw.hp
        have hm := hmw.hm
        have nd2 := List.nodup_cons.mp hmw.nd
        have nd3 := List.nodup_cons.mp nd2.2
        have s1 := same_upd (o := .tup [.str "own", .int sl]) ht
        have s2 := s1.trans (same_upd (o := .lst []) hq)
        have s3 := s2.trans (same_upd (o := .lst [.int c.fr, .ref t, .ref q]) hl)
        have ntq : t ≠ q := fun z => by rw [← z, upd_same] at hq; cases hq
        have nql : q ≠ l := fun z => by rw [← z, upd_same] at hl; cases hl
        have ntl : t ≠ l := fun z => by rw [← z, upd_ne ntq, upd_same] at hl; cases hl
        have fq : H q = none := by rw [upd_ne ntq.symm] at hq; exact hq
        have eol := s3 _ _ eo
        have hlw := mop_len ho
        have hel := (hnu.lead hst).2
        refine ⟨c.oa, ws, _, rfl, rfl, eol, szl (by omega), ?_⟩
        have el : (upd (upd (upd H t (.tup [.str "own", .int sl])) q (.lst [])) l (.lst [.int c.fr, .ref t, .ref q])) l = some (.lst [.int c.fr, .ref t, .ref q]) := upd_same
        have eq_ : (upd (upd (upd H t (.tup [.str "own", .int sl])) q (.lst [])) l (.lst [.int c.fr, .ref t, .ref q])) q = some (.lst []) := by rw [upd_ne nql, upd_same]
        have et : (upd (upd (upd H t (.tup [.str "own", .int sl])) q (.lst [])) l (.lst [.int c.fr, .ref t, .ref q])) t = some (.tup [.str "own", .int sl]) := by rw [upd_ne ntl, upd_ne ntq, upd_same]
        have fl : H l = none := by rw [upd_ne nql.symm, upd_ne ntl.symm] at hl; exact hl
        generalize upd (upd (upd H t (.tup [.str "own", .int sl])) q (.lst [])) l (.lst [.int c.fr, .ref t, .ref q]) = G at s3 eol el eq_ et
        have nom : c.oa ≠ m := fun z => by rw [z, hm] at eo; cases eo
        have hmG := s3 _ _ hm
        refine ⟨_, rfl, _, _, rfl, rfl, _, rfl, m, _, rfl, pp_fr (c := c) (by rw [upd_ne nom.symm]; exact hmG) (c.fr + 1), ?_⟩
        have up : ∀ {x : Addr} {w : HO}, G x = some w → x ≠ m → x ≠ c.oa → (upd (upd G c.oa (.lst (ws ++ [.ref l]))) m (.dK (stK { c with fr := c.fr + 1 }))) x = some w := fun h n1 n2 => by
          rw [upd_ne n1, upd_ne n2]
          exact h
        have tkE : TK G (upd (upd G c.oa (.lst (ws ++ [.ref l]))) m (.dK (stK { c with fr := c.fr + 1 }))) := fun y ys h => up h (fun z => by rw [z, hmG] at h; cases h) (fun z => by rw [z, eol] at h; cases h)
        have tkH := (TK.same s3).trans tkE
        have noq : ∀ {x : Addr} {w : HO}, H x = some w → x ≠ q := fun h z => by rw [z, fq] at h; cases h
        refine ⟨c.fr, rfl, .inr ⟨hst, rfl, q, fun x w h n => ?_, fq, ⟨upd_same, ⟨xs, up (s3 _ _ ep) (fun z => by rw [z, hm] at ep; cases ep) (fun z => nd2.1 (by rw [z]; exact List.mem_cons_self)), mps_tk tkH hps⟩, ⟨_, by rw [upd_ne nom, upd_same], ?_⟩, ?_⟩⟩⟩
        · simp only [List.mem_cons, not_or] at n
          exact up (s3 _ _ h) n.1 n.2.1
        · refine mop_app (e := (c.fr, ownV sl, [])) (up el (fun z => by rw [z, hm] at fl; cases fl) (fun z => by rw [z, eo] at fl; cases fl)) ⟨t, rfl, .inl (tkE _ _ et)⟩ (up eq_ (fun z => by rw [z, hm] at fq; cases fq) (fun z => by rw [z, eo] at fq; cases fq)) ?_
          refine mop_put (fun x ys n h => up (s3 _ _ h) (fun z => by rw [z, hm] at h; cases h) n) tkH nd3.1 (fun n v q z => ?_) ho
          have z2 := HO.lst.inj (Option.some.inj (eo.symm.trans z))
          rw [z2] at ho
          exact mop_noint ho
        · have e4 : c.pa :: c.oa :: (qs ++ [q]) = (c.pa :: c.oa :: qs) ++ [q] := rfl
          rw [e4]
          refine List.nodup_append.mpr ⟨hmw.nd, by simp, fun x hx y hy z => ?_⟩
          rw [List.mem_singleton] at hy
          subst hy
          subst z
          rcases List.mem_cons.mp hx with z | z
          · rw [z, ep] at fq
            cases fq
          · rcases List.mem_cons.mp z with z | z
            · rw [z, eo] at fq
              cases fq
            · obtain ⟨is, h7⟩ := mop_mem ho z
              rw [h7] at fq
              cases fq
      · rintro σ G ⟨due, rfl, ⟨hl, rfl, rfl⟩ | ⟨hl, rfl, q2, k2, fq, hmw2⟩⟩
        · obtain ⟨dP, dO, dV, dvs, hpw⟩ := id hpr
          obtain ⟨dx, ob⟩ := hpw.ob
          unfold pfl at ob
          refine ⟨_, rfl, p, dx, _, rfl, ob, fl_Proposer_no_propose, _, rfl, (by show 2 ≤ sizeLine; decide), fun t ht => ?_⟩
          have s1 := same_upd (o := .tup [.str "own", .int sl]) ht
          refine ⟨p, f, ps, es, _, ownV sl, dP, dO, dV, dvs, rfl, ⟨t, rfl, .inl upd_same⟩, hpw.same s1, by rw [hnu.idle hl]; exact Nat.zero_le _, (fun e he => (hnu.se e he).1), fun _ => ?_, fun z => absurd (hnu.st.trans z) hl⟩
          refine ⟨.int (-1), rfl, .int (-1), .ty "int", .type "int", .type "int", true, rfl, .ty _, .base (.int _), kit_ty (by decide +kernel), true, rfl, ifbt rfl ?_⟩
          refine ⟨.int (-1), rfl, .int (-1), .ty "bool", .type "int", .type "bool", false, rfl, .ty _, .base (.int _), kit_ty (by decide +kernel), false, rfl, _, rfl, ifbt rfl ⟨_, rfl, _, rfl, rfl, ?_⟩⟩
          have hW2 : WK T.a_Proposer K _ p m o ds f c ps es qs (n + 1) := ⟨hpr.same s1, hmw.fp (FP.same s1), hno, s1 _ _ hd, nums_up hnu⟩
          have := q f c es qs _ hW2
          rwa [← decide_eq_true (rfl : V.int (-1) = V.int (-1))] at this
        · have hpr2 := hpr.mfr k2 fun x hx => hmw.lawO x hx
          obtain ⟨dP, dO, dV, dvs, hpw⟩ := id hpr2
          obtain ⟨dx, ob⟩ := hpw.ob
          unfold pfl at ob
          have hfr := (hnu.lead hl).1
          have hdG : G o = some (.lst (ds.map V.int)) := k2 _ _ hd fun z => by
            rcases List.mem_cons.mp z with z | z
            · have := hmw.hm
              rw [← z, hd] at this
              cases this
            · exact hno z
          refine ⟨_, rfl, p, dx, _, rfl, ob, fl_Proposer_no_propose, _, rfl, (by show 2 ≤ sizeLine; decide), fun t ht => ?_⟩
          have s1 := same_upd (o := .tup [.str "own", .int sl]) ht
          refine ⟨p, f, ps, es, _, ownV sl, dP, dO, dV, dvs, rfl, ⟨t, rfl, .inl upd_same⟩, hpw.same s1, by have := (hnu.lead hl).2; omega, (fun e he => (hnu.se e he).1), fun z => absurd (hnu.st.symm.trans hl) z, fun _ d2 H' fd2 k3 h3 => ?_⟩
          refine ⟨.int _, rfl, .int _, .ty "int", .type "int", .type "int", true, rfl, .ty _, .base (.int _), kit_ty (by decide +kernel), true, rfl, ifbt rfl ?_⟩
          refine ⟨.int _, rfl, .int _, .ty "bool", .type "int", .type "bool", false, rfl, .ty _, .base (.int _), kit_ty (by decide +kernel), false, rfl, _, rfl, ifbt rfl ⟨_, rfl, _, rfl, rfl, ?_⟩⟩
          have fp3 : FP _ H' := (hpw.same s1).fp (k3.mono fun x hx => by
            simp only [List.mem_cons, List.not_mem_nil, or_false] at hx ⊢
            rcases hx with z | z | z
            · exact .inl z
            · exact .inr (.inr (.inl z))
            · exact .inr (.inr (.inr (.inl z))))
          have fp4 := (FP.same s1).trans fp3
          have hW2 : WK T.a_Proposer K H' p m o ds { f with nx := f.nx + 1 } { c with fr := f.nx + 1 } ps (es ++ [(f.nx, ownV sl, [])]) (qs ++ [q2]) (n + 1) := by
            rw [hfr] at hmw2
            refine ⟨⟨_, _, _, _, h3⟩, hmw2.fp fp4, ?_, fp4 _ _ hdG rfl, nums_own hnu hl (pok_own _)⟩
            intro z
            rcases List.mem_cons.mp z with z | z
            · exact hno (by rw [z]; exact List.mem_cons_self)
            · rcases List.mem_append.mp z with z | z
              · exact hno (List.mem_cons_of_mem _ z)
              · rw [List.mem_singleton] at z
                rw [z, fq] at hd
                cases hd
          have := q _ _ _ _ _ hW2
          rw [hfr]
          rwa [← decide_eq_true (rfl : V.int f.nx = V.int f.nx)] at this
    · obtain ⟨dP, dO, dV, dvs, hpw⟩ := id hpr
      obtain ⟨dx, ob⟩ := hpw.ob
      unfold pfl at ob
      refine ⟨_, rfl, p, dx, _, rfl, ob, fl_Proposer_no_stop, p, dx, _, _, _, _, _, _, _, _, _, rfl, ob, fun eO eV G k fO fV nn hO hV e => ?_⟩
      have fp := FP.fr ob k
      have hm2 := hmw.fp fp
      have hpw2 := hpw.clear (g := { f with st := "idle" }) k fO fV nn hO hV ⟨dx, e⟩
      refine ⟨_, rfl, m, _, rfl, pp_st hm2.hm "idle", Nat.zero_le _, fun oa hoa => ?_⟩
      have n1 : oa ≠ m := fun z => by rw [z, upd_same] at hoa; cases hoa
      refine ⟨_, rfl, m, _, rfl, pp_oa (c := { c with st := "idle" }) (by rw [upd_ne n1.symm, upd_same]) oa, ?_⟩
      have f1 : G oa = none := by rw [upd_ne n1] at hoa; exact hoa
      have up : ∀ {x : Addr} {w : HO}, G x = some w → x ≠ m → (upd (upd (upd G m (.dK (stK { c with st := "idle" }))) oa (.lst [])) m (.dK (stK { c with st := "idle", oa := oa }))) x = some w := fun h n => by
        rw [upd_ne n, upd_ne (ne_of_none h f1), upd_ne n]
        exact h
      have fL : Fr [m] G (upd (upd (upd G m (.dK (stK { c with st := "idle" }))) oa (.lst [])) m (.dK (stK { c with st := "idle", oa := oa }))) := fun x w h n => up h (by simpa using n)
      have hml : ∀ x ∈ [m], LawO G x := fun x hx => hm2.lawO x (by rw [List.mem_singleton] at hx; rw [hx]; exact List.mem_cons_self)
      have tkL : TK G (upd (upd (upd G m (.dK (stK { c with st := "idle" }))) oa (.lst [])) m (.dK (stK { c with st := "idle", oa := oa }))) := fun t xs h => up h fun z => by
        have := hm2.hm
        rw [z, this] at h
        cases h
      obtain ⟨xs, e1, e2⟩ := hm2.hp
      have hd2 := fp _ _ hd rfl
      have lm : ∀ {x : Addr} {xs : List V}, G x = some (.lst xs) → x ≠ m := fun h z => by
        have := hm2.hm
        rw [z, this] at h
        cases h
      refine q { f with st := "idle" } { c with st := "idle", oa := oa } [] [] _ ⟨Pr.mfr ⟨_, _, _, _, hpw2⟩ fL hml, ⟨upd_same, ⟨xs, up e1 (lm e1), mps_tk tkL e2⟩, ⟨[], by rw [upd_ne n1, upd_same], trivial⟩, by simp [ne_of_none e1 f1]⟩, ?_, up hd2 (lm hd2), ?_⟩
      · simp only [List.mem_singleton]
        exact ne_of_none hd2 f1
      · exact nums_idle hnu
end
/-- what is no list and no tuple -/
def NoSeq (H : Hp) (L : List Addr) : Prop := ∀ x ∈ L, ∀ u, Rd H x u → (∀ xs, u ≠ .lst xs) ∧ ∀ xs, u ≠ .tup xs
theorem sql_fr {K : PySem.W.Frag} {L : List Addr} {H H' : Hp} {a : Addr} {xs : List V} (n : NoSeq H L) (f : Fr L H H') (h : SqL K H a xs) : SqL K H' a xs := by
  rcases h with (h | ⟨o, h⟩) | h
  · exact .inl (.inl (f _ _ h fun z => (n a z _ (.inl h)).1 xs rfl))
  · exact .inl (.inr ⟨o, f _ _ h fun z => (n a z _ (.inr ⟨o, h⟩)).1 xs rfl⟩)
  · exact .inr h
theorem sqt_fr {K : PySem.W.Frag} {L : List Addr} {H H' : Hp} {a : Addr} {xs : List V} (n : NoSeq H L) (f : Fr L H H') (h : SqT K H a xs) : SqT K H' a xs := by
  rcases h with (h | ⟨o, h⟩) | h
  · exact .inl (.inl (f _ _ h fun z => (n a z _ (.inl h)).2 xs rfl))
  · exact .inl (.inr ⟨o, f _ _ h fun z => (n a z _ (.inr ⟨o, h⟩)).2 xs rfl⟩)
  · exact .inr h
mutual
theorem dp_fr {K : PySem.W.Frag} {L : List Addr} {H H' : Hp} (n : NoSeq H L) (f : Fr L H H') : ∀ (d : PyData) {v : V}, Dp K H v d → Dp K H' v d
  | _, _, .non => .non
  | _, _, .bl b => .bl b
  | _, _, .int i => .int i
  | _, _, .str x => .str x
  | .list ds, _, .lst h a => .lst (sql_fr n f h) (dpa_fr n f ds a)
  | .tuple ds, _, .tup h a => .tup (sqt_fr n f h) (dpa_fr n f ds a)
theorem dpa_fr {K : PySem.W.Frag} {L : List Addr} {H H' : Hp} (n : NoSeq H L) (f : Fr L H H') : ∀ (ds : List PyData) {vs : List V}, DpAll K H vs ds → DpAll K H' vs ds
  | [], _, .nil => .nil
  | d :: ds, _, .cons h a => .cons (dp_fr n f d h) (dpa_fr n f ds a)
end
theorem noseq_m {H : Hp} {m : Addr} {kvs : List (Key × V)} (h : H m = some (.dK kvs)) : NoSeq H [m] := fun x hx u r => by
  rw [List.mem_singleton] at hx
  subst hx
  rcases r with r | ⟨o, r⟩
  · rw [h] at r
    cases r
    exact ⟨fun _ z => (by cases z), fun _ z => (by cases z)⟩
  · rw [h] at r
    cases r
theorem or_use {ta tb : TT} {σ : L2.St} {H : Hp} {Q : Bool → Hp → Prop} {x y : Bool} (ha : ∀ R : Bool → Hp → Prop, R x H → ta σ H R) (hb : ∀ R : Bool → Hp → Prop, R y H → tb σ H R) (q : Q (x || y) H) : tOr ta tb σ H Q := by
  refine ha _ ?_
  cases x with
  | true => exact (if_pos rfl).mpr q
  | false => exact (if_neg Bool.false_ne_true).mpr (hb _ q)
theorem and_use {ta tb : TT} {σ : L2.St} {H : Hp} {Q : Bool → Hp → Prop} {x y : Bool} (ha : ∀ R : Bool → Hp → Prop, R x H → ta σ H R) (hb : ∀ R : Bool → Hp → Prop, R y H → tb σ H R) (q : Q (x && y) H) : tAnd ta tb σ H Q := by
  refine ha _ ?_
  cases x with
  | true => exact (if_pos rfl).mpr (hb _ q)
  | false => exact (if_neg Bool.false_ne_true).mpr q
/-- x is y, both truth values -/
theorem op_is_bl {X : Cx} : OpR X (compareOp .Is) (fun x y H Q => ∃ a b, x = .bl a ∧ y = .bl b ∧ Q (.bl (decide (a = b))) H) := by
  intro pins s σ H x y v u Q I rx ry h
  obtain ⟨a, b, rfl, rfl, q⟩ := h
  cases rx
  cases ry
  show wpAny _ _ ((isSame (Value.bool a) (Value.bool b)) >>= fun z => pure (Value.bool z)) _ _ s
  refine wpAny_bind (wpAny_isSame_plain (by cases a <;> cases b <;> rfl) (wpAny_pure (fin_bl I q ?_)))
  cases a <;> cases b <;> rfl
section
variable {K : PySem.W.Frag} {H H' : Hp} {m : Addr} {c c' : MC} {ps : List (Int × List PRow)} {es : List PEnt} {qs : List Addr} {f : PF} {n : Nat} {x : Int}
theorem MW.ne_lst (h : MW K H m c ps es qs) {y : Addr} {xs : List V} (e : H y = some (.lst xs)) : y ∉ [m] := fun z => by
  have := h.hm
  rw [List.mem_singleton] at z
  rw [← z, e] at this
  cases this
theorem MW.tk1 (h : MW K H m c ps es qs) (k : Fr [m] H H') : TK H H' := fun t xs e => k t _ e fun z => by
  have := h.hm
  rw [List.mem_singleton] at z
  rw [← z, e] at this
  cases this
theorem MW.set (h : MW K H m c ps es qs) (k : Fr [m] H H') (e : H' m = some (.dK (stK c'))) (e1 : c'.pa = c.pa) (e2 : c'.oa = c.oa) : MW K H' m c' ps es qs := by
  obtain ⟨xs, p1, p2⟩ := h.hp
  obtain ⟨ws, o1, o2⟩ := h.ho
  have nd := h.nd
  refine ⟨e, ⟨xs, by rw [e1]; exact k _ _ p1 (h.ne_lst p1), mps_tk (h.tk1 k) p2⟩, ⟨ws, by rw [e2]; exact k _ _ o1 (h.ne_lst o1), mop_fr (fun y ys q => k _ _ q (h.ne_lst q)) (h.tk1 k) o2⟩, by rw [e1, e2]; exact nd⟩
theorem MW.fresh (h : MW K H m c ps es qs) (k : Fr [m] H H') (e : H' m = some (.dK (stK c'))) (e1 : c'.pa = c.pa) (f0 : H c'.oa = none) (e2 : H' c'.oa = some (.lst [])) : MW K H' m c' ps [] [] := by
  obtain ⟨xs, p1, p2⟩ := h.hp
  refine ⟨e, ⟨xs, by rw [e1]; exact k _ _ p1 (h.ne_lst p1), mps_tk (h.tk1 k) p2⟩, ⟨[], e2, trivial⟩, ?_⟩
  rw [e1]
  simp [ne_of_none p1 f0]
theorem nums_sawn (h : Nums f c ps es n) : Nums (f.sawF x) { c with sn := mxI c.sn x } ps es n :=
  { h with
    mx := by
      have h1 := h.mx
      have h2 := h.b
      show mxI c.b (mxI c.sn x) = mxI (mxI f.sn x) f.b
      rw [h2] at h1 ⊢
      unfold mxI at h1 ⊢
      repeat' split at h1
      all_goals (repeat' split) <;> omega }
theorem nums_saw (h : Nums f c ps es n) : Nums (f.sawF x) { c with sn := mxI c.sn x } ps es (n + 1) := nums_up (nums_sawn h)
end
theorem nums_begin {f : PF} {c : MC} {ps : List (Int × List PRow)} {es : List PEnt} {n : Nat} {x : Int} {pa oa : Addr} (h : Nums f c ps es n) (hb : begB c = nextB (mxI f.sn f.b) f.ix f.ct) (h0 : 0 ≤ x) (h4 : x < 4) :
    Nums { f with b := nextB (mxI f.sn f.b) f.ix f.ct, st := "preparing", nx := x } { c with b := begB c, sn := begB c, st := "preparing", fi := x, pa := pa, oa := oa } [] [] (n + 1) := by
  have hc := h.ct
  have hc1 := h.ct1
  have hm0 : 0 ≤ mxI f.sn f.b ∧ f.sn ≤ mxI f.sn f.b := by
    have := h.b0
    unfold mxI
    split <;> omega
  have hn : mxI f.sn f.b < nextB (mxI f.sn f.b) f.ix f.ct := by
    have h1 := h.ix1
    have h2 := h.ix
    have h3 := Int.emod_lt_of_pos (mxI f.sn f.b) (show 0 < f.ct by omega)
    unfold nextB
    split <;> omega
  exact
  { b := hb, st := rfl, ct := h.ct, ix := h.ix, ct1 := h.ct1, ix1 := h.ix1
    mx := by
      show mxI (begB c) (begB c) = mxI f.sn (nextB (mxI f.sn f.b) f.ix f.ct)
      rw [hb]
      generalize nextB (mxI f.sn f.b) f.ix f.ct = y at hn
      have e1 : mxI y y = y := by unfold mxI; split <;> rfl
      have e2 : mxI f.sn y = y := if_pos (by omega)
      rw [e1, e2]
    b0 := by show 0 ≤ nextB _ _ _; omega
    idle := fun _ => rfl
    prep := fun _ => ⟨rfl, Nat.succ_le_succ (Nat.zero_le _)⟩
    lead := fun z => absurd (show Str.ofString "preparing" = Str.ofString "leading" from z) (by decide +kernel)
    fn := Int.le_refl _
    fi := by show 0 ≤ x ∧ x ≤ _; omega
    nx := by show 0 ≤ x ∧ x ≤ _; omega
    rg := fun _ z => by cases z
    pk := List.nodup_nil
    pl := Nat.zero_le _
    rl := Nat.zero_le _
    sl := List.Pairwise.nil
    se := fun _ z => by cases z
    rk := fun _ z => by cases z
    ek := fun _ z => by cases z }
def sp_ldeed (C : Addr) (K : PySem.W.Frag) : Sp := fun vs H Q _ => ∃ (p m o : Addr) (a b d : Int) (ds : List Int) (f : PF) (c : MC) (ps : List (Int × List PRow)) (es : List PEnt) (qs : List Addr) (n : Nat), vs = [.ref p, .ref m, .int a, .int b, .int d] ∧ WK C K H p m o ds f c ps es qs n ∧ n ≤ 59 ∧ (0 ≤ a ∧ a < 1000) ∧ (0 ≤ b ∧ b < 1000) ∧ (0 ≤ d ∧ d < 1000) ∧
  ∀ (f' : PF) (c' : MC) (ps' : List (Int × List PRow)) (es' : List PEnt) (qs' : List Addr) (H' : Hp), WK C K H' p m o ds f' c' ps' es' qs' (n + 1) → Q (.bl true) H'

/-- values whose texts are plain -/
theorem best_ok {ds : List (Int × PVal)} (h : ∀ p ∈ ds, POk p.2) : POk (bestO ds).2 := by
  have go : ∀ (ds : List (Int × PVal)) (b : Int × PVal), POk b.2 → (∀ p ∈ ds, POk p.2) → POk (ds.foldl btr b).2 := fun ds => by
    induction ds with
    | nil => intro b hb _; exact hb
    | cons p ds ih =>
      intro b hb h
      refine ih _ ?_ fun y hy => h y (List.mem_cons_of_mem _ hy)
      unfold btr
      split
      · exact h p List.mem_cons_self
      · exact hb
  exact go ds _ (fun k hk => by rw [List.mem_singleton.mp (show k ∈ [(Sum.inr "nothing" : Key)] from hk)]; exact flat_str 0 "nothing") h
theorem ents_shaped {es : List PEnt} (h : ∀ e ∈ es, POk e.2.1) : SeqAt.shaped (.list (es.map entD)) = true := by
  refine Flat.sh (n := 3) (flat_list (n := 2) fun d hd => ?_) (by decide)
  obtain ⟨e, he, rfl⟩ := List.mem_map.mp hd
  refine flat_tup (n := 1) fun d hd => ?_
  rcases List.mem_cons.mp hd with rfl | hd
  · exact flat_int 1 _
  · rw [List.mem_singleton] at hd
    rw [hd]
    refine flat_tup (n := 0) fun d hd => ?_
    obtain ⟨k, hk, rfl⟩ := List.mem_map.mp hd
    exact h e he k hk
theorem val_shaped {d : PVal} (h : POk d) : SeqAt.shaped (valD d) = true := by
  refine Flat.sh (n := 1) (flat_tup (n := 0) fun x hx => ?_) (by decide)
  obtain ⟨k, hk, rfl⟩ := List.mem_map.mp hx
  exact h k hk
theorem nums_prom {f : PF} {c : MC} {ps : List (Int × List PRow)} {es : List PEnt} {n : Nat} {i bs : Int} {rs : List PRow} {pa : Addr} (h : Nums f c ps es n) (hs : c.st = "preparing") (hi : i ∉ ps.map (·.1)) (hb : bs ≤ c.fi + 2) (hr : rs.length ≤ 3) (hg : ∀ r ∈ rs, 0 ≤ r.1 ∧ r.1 ≤ c.fi + 4) (hk : ∀ r ∈ rs, POk r.2.2) :
    Nums (promF f bs) (proM c bs pa) (ps ++ [(i, rs)]) es (n + 1) := by
  have hp := h.prep hs
  have hm : c.fi ≤ mxI c.fi bs ∧ mxI c.fi bs ≤ c.fi + 2 := by unfold mxI; split <;> omega
  have e : (ps ++ [(i, rs)]).flatMap (·.2) = ps.flatMap (·.2) ++ rs := by rw [List.flatMap_append, List.flatMap_cons, List.flatMap_nil, List.append_nil]
  have hf := h.fi
  exact
  { b := h.b, st := h.st, ct := h.ct, ix := h.ix, mx := h.mx, b0 := h.b0, ct1 := h.ct1, ix1 := h.ix1, idle := h.idle, ek := h.ek, sl := h.sl
    prep := fun _ => ⟨by show mxI c.fi bs = mxI f.nx bs; rw [hp.1], Nat.succ_le_succ (Nat.zero_le _)⟩
    lead := fun z => absurd (show Str.ofString "preparing" = Str.ofString "leading" from hs.symm.trans z) (by decide +kernel)
    fn := by show mxI c.fi bs ≤ mxI f.nx bs; rw [hp.1]; exact Int.le_refl _
    fi := by show 0 ≤ mxI c.fi bs ∧ mxI c.fi bs ≤ _; omega
    nx := by
      show 0 ≤ mxI f.nx bs ∧ mxI f.nx bs ≤ _
      rw [← hp.1]
      omega
    rg := fun r hr => by
      rw [e] at hr
      show 0 ≤ r.1 ∧ r.1 ≤ mxI c.fi bs + 4
      rcases List.mem_append.mp hr with z | z
      · have := h.rg r z
        omega
      · have := hg r z
        omega
    rk := fun r hr => by
      rw [e] at hr
      exact (List.mem_append.mp hr).elim (h.rk r) (hk r)
    pk := by
      rw [List.map_append]
      exact List.nodup_append.mpr ⟨h.pk, by simp, fun x hx y hy z => hi (by rw [List.map_cons, List.map_nil, List.mem_singleton] at hy; have hy2 : y = i := hy; rw [← hy2, ← z]; exact hx)⟩
    pl := by rw [List.length_append]; exact Nat.succ_le_succ h.pl
    rl := by rw [e, List.length_append]; have := h.rl; omega
    se := fun e he => ⟨by
      have h1 := (h.se e he).1
      have h2 := hp.1
      show e.1 < mxI f.nx bs
      rw [← h2]
      omega, Nat.le_succ_of_le (h.se e he).2⟩ }
theorem top_le {rows : List PRow} {B : Int} (h1 : -1 ≤ B) (h : ∀ r ∈ rows, r.1 ≤ B) : topR rows ≤ B := by
  obtain ⟨_, _, z | ⟨r, hr, e⟩⟩ := top_from rows (-1)
  · unfold topR; rw [z]; exact h1
  · unfold topR; rw [← e]; exact h r hr
theorem nums_lead {f : PF} {c : MC} {ps : List (Int × List PRow)} {es : List PEnt} {n : Nat} {i bs : Int} {rs : List PRow} {pa oa : Addr} (h : Nums f c ps es n) (hs : c.st = "preparing") (hi : i ∉ ps.map (·.1)) (hb : bs ≤ c.fi + 2) (hr : rs.length ≤ 3) (hg : ∀ r ∈ rs, 0 ≤ r.1 ∧ r.1 ≤ c.fi + 4) (hk : ∀ r ∈ rs, POk r.2.2) :
    Nums (leadF f (ps.flatMap (·.2) ++ rs) bs) (leadM c (ps.flatMap (·.2) ++ rs) bs pa oa) (ps ++ [(i, rs)]) (openF f (ps.flatMap (·.2) ++ rs) bs) (n + 1) := by
  have hp := h.prep hs
  have g := nums_prom (pa := pa) h hs hi hb hr hg hk
  have hm : c.fi ≤ mxI c.fi bs ∧ mxI c.fi bs ≤ c.fi + 2 := by unfold mxI; split <;> omega
  have e : (ps ++ [(i, rs)]).flatMap (·.2) = ps.flatMap (·.2) ++ rs := by rw [List.flatMap_append, List.flatMap_cons, List.flatMap_nil, List.append_nil]
  have hf := h.fi
  have grg := g.rg
  have grk := g.rk
  have grt : ∀ r ∈ ps.flatMap (·.2) ++ rs, r.1 ≤ c.fi + 4 := fun r hr => (List.mem_append.mp hr).elim (fun z => (h.rg r z).2) fun z => (hg r z).2
  rw [e] at grg grk
  generalize ps.flatMap (·.2) ++ rs = rows at grg grk grt
  have ht : topR rows ≤ c.fi + 4 := by
    exact top_le (by omega) grt
  have h2 := top_two (rows := rows) (f := mxI c.fi bs) (by omega) fun r hr => (grg r hr).1
  have h3 := topM_le (rows := rows) (f := mxI c.fi bs) (B := mxI c.fi bs + 4) (by omega) fun r hr => (grg r hr).2
  have e1 : mxI f.nx bs = mxI c.fi bs := by rw [hp.1]
  have e2 : topM rows (mxI c.fi bs) + 1 = mxI c.fi bs + ((topR rows + 1 - mxI c.fi bs).toNat : Int) := by
    rw [← h2]
    unfold openN
    omega
  have hl : (opened rows (mxI c.fi bs) (topR rows + 1 - mxI c.fi bs).toNat).length = (topR rows + 1 - mxI c.fi bs).toNat := opened_len _ _ _
  have ho : ∀ x ∈ opened rows (mxI c.fi bs) (topR rows + 1 - mxI c.fi bs).toNat, x.1 < mxI c.fi bs + ((topR rows + 1 - mxI c.fi bs).toNat : Int) ∧ x.2.2 = [] ∧ POk x.2.1 := fun x hx => by
    unfold opened at hx
    obtain ⟨k, hk, rfl⟩ := List.mem_map.mp hx
    rw [List.mem_range] at hk
    refine ⟨by show mxI c.fi bs + (k : Int) < _; omega, rfl, best_ok fun y hy => ?_⟩
    unfold rowsOf at hy
    obtain ⟨r, hr, rfl⟩ := List.mem_map.mp hy
    exact grk r (List.mem_filter.mp hr).1
  exact
  { g with
    st := rfl
    idle := fun z => absurd rfl z
    prep := fun z => absurd (show Str.ofString "leading" = Str.ofString "preparing" from z) (by decide +kernel)
    lead := fun _ => by
      refine ⟨?_, ?_⟩
      · show topM rows (mxI c.fi bs) + 1 = mxI f.nx bs + ((topR rows + 1 - mxI f.nx bs).toNat : Int)
        rw [e1, e2]
      · unfold openF
        rw [e1, hl]
        omega
    fn := by show mxI c.fi bs ≤ mxI f.nx bs + _; rw [e1]; omega
    fi := g.fi
    nx := by
      show 0 ≤ mxI f.nx bs + ((topR rows + 1 - mxI f.nx bs).toNat : Int) ∧ mxI f.nx bs + ((topR rows + 1 - mxI f.nx bs).toNat : Int) ≤ _
      rw [e1]
      omega
    sl := by unfold openF; exact opened_lt _ _ _
    se := fun x hx => by
      unfold openF at hx
      rw [e1] at hx
      obtain ⟨h1, h2, _⟩ := ho x hx
      rw [h2]
      refine ⟨?_, Nat.zero_le _⟩
      show x.1 < mxI f.nx bs + ((topR rows + 1 - mxI f.nx bs).toNat : Int)
      rw [e1]
      exact h1
    ek := fun x hx => by
      unfold openF at hx
      rw [e1] at hx
      exact (ho x hx).2.2 }
theorem addV_le (is : List Int) (i : Int) : (addV is i).length ≤ is.length + 1 := by
  unfold addV
  split
  · omega
  · rw [List.length_append]; exact Nat.le_refl _
theorem nums_vote {f : PF} {c : MC} {ps : List (Int × List PRow)} {es : List PEnt} {n : Nat} {s i : Int} (h : Nums f c ps es n) : Nums f c ps (voteE es s i) (n + 1) :=
  have g := nums_up h
  { g with
    idle := fun z => by rw [h.idle z]; rfl
    lead := fun z => ⟨(g.lead z).1, by unfold voteE; rw [List.length_map]; exact (g.lead z).2⟩
    sl := by rw [voteE_keys]; exact h.sl
    se := fun e he => by
      unfold voteE at he
      obtain ⟨x, hx, rfl⟩ := List.mem_map.mp he
      have := h.se x hx
      split
      · refine ⟨this.1, ?_⟩
        have := addV_le x.2.2 i
        show (addV x.2.2 i).length ≤ n + 1
        omega
      · exact ⟨this.1, by omega⟩
    ek := fun e he => by
      unfold voteE at he
      obtain ⟨x, hx, rfl⟩ := List.mem_map.mp he
      have := h.ek x hx
      split
      · exact this
      · exact this }
theorem nums_drop {f : PF} {c : MC} {ps : List (Int × List PRow)} {es : List PEnt} {n : Nat} {s : Int} {oa : Addr} (h : Nums f c ps es n) : Nums f { c with oa := oa } ps (dropE es s) (n + 1) :=
  have g := nums_up h
  have sub : ∀ e ∈ dropE es s, e ∈ es := fun e he => (List.mem_filter.mp he).1
  { g with
    idle := fun z => by rw [h.idle z]; rfl
    lead := fun z => ⟨(g.lead z).1, Nat.le_trans (List.length_filter_le _ _) (g.lead z).2⟩
    sl := h.sl.sublist (List.filter_sublist.map _)
    se := fun e he => g.se e (sub e he)
    ek := fun e he => g.ek e (sub e he) }
theorem nums_saw0 {f : PF} {c : MC} {ps : List (Int × List PRow)} {es : List PEnt} {n : Nat} (h : Nums f c ps es n) : Nums (f.sawF 0) c ps es (n + 1) :=
  nums_up { h with
    mx := by
      have h1 := h.mx
      have h2 := h.b0
      show mxI c.b c.sn = mxI (mxI f.sn 0) f.b
      rw [h1]
      unfold mxI
      repeat' split
      all_goals omega }
theorem rows_app {K : PySem.W.Frag} {H : Hp} {x : V} {r : PRow} (h : RowIs K H x r) : ∀ {xs : List V} {rs : List PRow}, RowsIs K H xs rs → RowsIs K H (xs ++ [x]) (rs ++ [r])
  | [], [], _ => ⟨h, trivial⟩
  | _ :: _, _ :: _, ⟨a, b⟩ => ⟨a, rows_app h b⟩
def vVal (a k : Int) : PVal := [Sum.inr "v", Sum.inl a, Sum.inl k]
theorem pok_v (a k : Int) : POk (vVal a k) := fun x hx => by
  rcases List.mem_cons.mp hx with rfl | hx
  · exact flat_str 0 "v"
  · rcases List.mem_cons.mp hx with rfl | hx
    · exact flat_int 0 _
    · rw [List.mem_singleton.mp hx]
      exact flat_int 0 _
theorem ent_uniq {α : Type} : ∀ {es : List (Int × α)} {e e' : Int × α}, (es.map (·.1)).Nodup → e ∈ es → e' ∈ es → e.1 = e'.1 → e = e'
  | [], _, _, _, h, _, _ => by cases h
  | x :: es, e, e', nd, h, h', q => by
    have nd2 := List.nodup_cons.mp nd
    rcases List.mem_cons.mp h with z | z <;> rcases List.mem_cons.mp h' with z' | z'
    · rw [z, z']
    · exact absurd (List.mem_map.mpr ⟨e', z', by rw [← q, z]⟩) nd2.1
    · exact absurd (List.mem_map.mpr ⟨e, z, by rw [q, z']⟩) nd2.1
    · exact ent_uniq nd2.2 z z' q
section
variable {P : Program} {w : World} {K : PySem.W.Frag} {mg : Str → Option Value} {base : Heap}
theorem ok__law_deed (T : TX K mg) : FnOk P w K mg base CX0 4 T.a__law_deed T.d__law_deed ["proposer", "model", "one", "other", "third"] (sp_ldeed T.a_Proposer K) := by
  refine T.F__law_deed.ok sc__law_deed (fun vs H Q E h => ?_) (fun cdv A outer s H vs Q E hr h => ?_)
  · obtain ⟨p, m, o, a, b, d, ds, f, c, ps, es, qs, n, rfl, _⟩ := h
    rfl
  · obtain ⟨p, m, o, a, b, d, ds, f, c, ps, es, qs, n, rfl, hW, hn, ha, hb, hd3, q⟩ := h
    refine ⟨_, (pss_cons (ps_set (i := 5) sc__law_deed.nd rfl (Or.inl rfl) (pe_dget (hu_of hr) (pv 1) pe_str (fun _ _ => rfl)))
      (C8.pss_cut (ps_if (pt_cmpR op_eq (pe_op op_mod (pv 3) pe_int) pe_int (nomark _)) (pss_one (ps_set (i := 5) sc__law_deed.nd rfl (Or.inl rfl) (pe_callB (call_max2 rfl) (by rfl) T.n_max (by decide +kernel) (pa_cons pe_int (pa_cons (pe_op op_sub (pe_op op_add (pv 5) (pe_op op_mod (pe_op op_fdiv (pv 3) pe_int) pe_int)) pe_int) pa_nil))))) pss_nil)
      (pss_cons (ps_set (i := 6) sc__law_deed.nd rfl (Or.inl rfl) (pe_op op_mod (pv 4) (pe_dget (hu_of hr) (pv 1) pe_str (fun _ _ => rfl))))
      (pss_cons (ps_set (i := 7) sc__law_deed.nd rfl (Or.inl rfl) (pe_op op_mod (pv 2) pe_int))
      (pss_cons (ps_if (pt_cmpR op_eq (pv 7) pe_int (nomark _)) (pss_cons (ps_set (i := 8) sc__law_deed.nd rfl (Or.inl rfl) (pe_meth (pv 0) T.K_Proposer T.m_Proposer_saw (ok_Proposer_saw T) (hr.mono (by decide)) T.b_Proposer_saw .nil pass0 (pa_cons (pv 5) pa_nil)))
        (pss_one (ps_ret (pe_and (pe_callB call_isi (by rfl) T.n_isinstance (by decide +kernel) (pa_cons (pv 8) (pa_cons (pe_bltn (v := .ty "bool") (u := .type "bool") (by rfl) T.n_bool (by decide +kernel) rfl) pa_nil))) (pe_one (pe_cmpR op_eq (pv 8) (pe_call (ok__law_saw T) (hr.mono (by decide)) (by rfl) T.g__law_saw T.F__law_saw.kp T.b__law_saw .nil pass0 (pa_cons (pv 1) (pa_cons (pv 5) pa_nil))) (nomark _))))))) pss_nil)
      (pss_cons (ps_if (PW.pt (pw_or (pt_cmpR op_eq (pv 7) pe_int (nomark _)) (pw_or1 (PW.pt (pw_and (pt_cmpR op_eq (pe_dget (hu_of hr) (pv 1) pe_str (fun _ _ => rfl)) pe_str (nomark _)) (pw_and1 (pt_cmpR op_lt (pv 7) pe_int (nomark _)))))))) (pss_cons (ps_set (i := 9) sc__law_deed.nd rfl (Or.inl rfl) (pe_meth (pv 0) T.K_Proposer T.m_Proposer_begin (ok_Proposer_begin T) (hr.mono (by decide)) T.b_Proposer_begin .nil pass0 (pa_cons (pe_op op_mod (pv 4) pe_int) pa_nil)))
        (pss_one (ps_ret (pe_and (pe_callB call_isi (by rfl) T.n_isinstance (by decide +kernel) (pa_cons (pv 9) (pa_cons (pe_bltn (v := .ty "int") (u := .type "int") (by rfl) T.n_int (by decide +kernel) rfl) pa_nil))) (pe_one (pe_cmpR op_eq (pv 9) (pe_call (ok__law_begin T) (hr.mono (by decide)) (by rfl) T.g__law_begin T.F__law_begin.kp T.b__law_begin .nil pass0 (pa_cons (pv 1) (pa_cons (pe_op op_mod (pv 4) pe_int) pa_nil))) (nomark _))))))) pss_nil)
      (pss_cons (ps_if (pt_cmpR op_lt (pv 7) pe_int (nomark _)) (pss_cons (ps_set (i := 10) sc__law_deed.nd rfl (Or.inl rfl) (pe_lst pa_nil))
        (pss_cons (ps_for PassesOwn.never rfl (pi_range1 (by rfl) T.n_range (pa_cons (pe_op op_mod (pe_op op_fdiv (pv 2) pe_int) pe_int) pa_nil)) (pg_name (i := 11) sc__law_deed.nd rfl (Or.inl rfl))
          (pss_one (ps_expr (pe_bm PySem.F.plainAttrs_list PySem.F.slot_list_append PySem.F.type_list_append mt_append (pv 10) (pa_cons (pe_tup (pa_cons (pe_callB (call_max2 rfl) (by rfl) T.n_max (by decide +kernel) (pa_cons pe_int (pa_cons (pe_op op_sub (pe_op op_add (pe_dget (hu_of hr) (pv 1) pe_str (fun _ _ => rfl)) (pe_op op_mod (pe_op op_add (pe_op op_fdiv (pv 3) pe_int) (pe_op op_mul pe_int (pv 11))) pe_int)) pe_int) pa_nil))) (pa_cons (pe_op op_mod (pe_op op_add (pv 4) (pe_op op_mul pe_int (pv 11))) pe_int) (pa_cons (pe_tup (pa_cons pe_str (pa_cons (pv 2) (pa_cons (pv 11) pa_nil)))) pa_nil)))) pa_nil)))))
        (pss_cons (ps_set (i := 12) sc__law_deed.nd rfl (Or.inl rfl) (pe_callTy call_tuple_of (by rfl) T.n_tuple (by decide +kernel) (pa_cons (pv 10) pa_nil)))
        (pss_cons (ps_set (i := 13) sc__law_deed.nd rfl (Or.inl rfl) pe_int)
        (C8.pss_cut (ps_if (pt_cmpR op_eq (pe_op op_mod (pv 3) pe_int) pe_int (nomark _)) (pss_one (ps_set (i := 13) sc__law_deed.nd rfl (Or.inl rfl) (pe_op op_add (pe_dget (hu_of hr) (pv 1) pe_str (fun _ _ => rfl)) (pe_op op_mod (pe_op op_fdiv (pv 4) pe_int) pe_int)))) pss_nil)
        (pss_cons (ps_set (i := 9) sc__law_deed.nd rfl (Or.inl rfl) (pe_meth (pv 0) T.K_Proposer T.m_Proposer_hear_promise (ok_Proposer_hear_promise T) (hr.mono (by decide)) T.b_Proposer_hear_promise .nil pass0 (pa_cons (pv 6) (pa_cons (pv 5) (pa_cons (pv 13) (pa_cons (pv 12) pa_nil))))))
        (pss_one (ps_ret (pe_and (pe_callB call_isi (by rfl) T.n_isinstance (by decide +kernel) (pa_cons (pv 9) (pa_cons (pe_bltn (v := .ty "list") (u := .type "list") (by rfl) T.n_list (by decide +kernel) rfl) pa_nil))) (pe_one (pe_cmpR (op_eqD hr.units) (pv 9) (pe_call (ok__law_promise T) (hr.mono (by decide)) (by rfl) T.g__law_promise T.F__law_promise.kp T.b__law_promise .nil pass0 (pa_cons (pv 1) (pa_cons (pv 6) (pa_cons (pv 5) (pa_cons (pv 13) (pa_cons (pe_callTy call_tuple_of (by rfl) T.n_tuple (by decide +kernel) (pa_cons (pv 10) pa_nil)) pa_nil)))))) (nomark _)))))))))))) pss_nil)
      (pss_cons (ps_if (pt_cmpR op_lt (pv 7) pe_int (nomark _)) (pss_cons (ps_set (i := 14) sc__law_deed.nd rfl (Or.inl rfl) (pe_op op_mod (pe_op op_fdiv (pv 3) pe_int) pe_int))
        (C8.pss_cut (ps_if (PW.pt (pw_and (pt_cmpR op_gt (pe_callB call_len_seq (by rfl) T.n_len PySem.boot_len (pa_cons (pe_dget (hu_of hr) (pv 1) pe_str (fun _ _ => rfl)) pa_nil)) pe_int (nomark _)) (pw_and1 (pt_cmpR op_gt (pe_op op_mod (pv 3) pe_int) pe_int (nomark _))))) (pss_one (ps_set (i := 14) sc__law_deed.nd rfl (Or.inl rfl) (pe_ix ix_list (pe_ix ix_list (pe_dget (hu_of hr) (pv 1) pe_str (fun _ _ => rfl)) (pe_op op_mod (pe_op op_fdiv (pv 3) pe_int) (pe_callB call_len_seq (by rfl) T.n_len PySem.boot_len (pa_cons (pe_dget (hu_of hr) (pv 1) pe_str (fun _ _ => rfl)) pa_nil))) (fun _ _ => rfl)) pe_int (fun _ _ => rfl)))) pss_nil)
        (pss_one (ps_ret (pe_cmpR (op_eqD hr.units) (pe_meth (pv 0) T.K_Proposer T.m_Proposer_hear_accepted (ok_Proposer_hear_accepted T) (hr.mono (by decide)) T.b_Proposer_hear_accepted .nil pass0 (pa_cons (pv 6) (pa_cons (pv 5) (pa_cons (pv 14) pa_nil)))) (pe_call (ok__law_accepted T) (hr.mono (by decide)) (by rfl) T.g__law_accepted T.F__law_accepted.kp T.b__law_accepted .nil pass0 (pa_cons (pv 1) (pa_cons (pv 6) (pa_cons (pv 5) (pa_cons (pv 14) pa_nil))))) (nomark _)))))) pss_nil)
      (pss_cons (ps_if (pt_cmpR op_lt (pv 7) pe_int (nomark _)) (pss_one (ps_ret (pe_call (ok__law_other T) (hr.mono (by decide)) (by rfl) T.g__law_other T.F__law_other.kp T.b__law_other .nil pass0 (pa_cons (pv 0) (pa_cons (pv 1) (pa_cons pe_int (pa_cons (pv 2) pa_nil))))))) pss_nil)
      (pss_cons (ps_if (pt_cmpR op_eq (pe_op op_mod (pv 3) pe_int) pe_int (nomark _)) (pss_one (ps_ret (pe_call (ok__law_other T) (hr.mono (by decide)) (by rfl) T.g__law_other T.F__law_other.kp T.b__law_other .nil pass0 (pa_cons (pv 0) (pa_cons (pv 1) (pa_cons pe_int (pa_cons (pv 2) pa_nil))))))) pss_nil)
      (pss_one (ps_ret (pe_cmpR op_is_bl (pe_meth (pv 0) T.K_Proposer T.m_Proposer_saw (ok_Proposer_saw T) (hr.mono (by decide)) T.b_Proposer_saw .nil pass0 (pa_cons pe_int pa_nil)) pe_bl (nomark _)))))))))))))), ?_⟩
    obtain ⟨hpr, hmw, hno, hd, hnu⟩ := id hW
    refine ⟨_, rfl, m, _, rfl, gg_b hmw.hm, ?_⟩
    refine ⟨fun σ' G => ∃ bal : Int, 0 ≤ bal ∧ σ' = [some (.ref p), some (.ref m), some (.int a), some (.int b), some (.int d), some (.int bal), none, none, none, none, none, none, none, none, none] ∧ H = G, ?_, ?_⟩
    · refine ⟨_, rfl, _, _, rfl, rfl, (by show (0 : Int) < _; decide), rfl, _, rfl, ifd (fun hx => ?_) (fun hx => ⟨c.b, by rw [hnu.b]; exact hnu.b0, rfl, rfl⟩)⟩
      refine ⟨_, rfl, _, rfl, _, _, rfl, rfl, ⟨by decide, by decide⟩, _, _, rfl, rfl, (by show (0 : Int) < _; decide), _, _, rfl, rfl, _, _, rfl, rfl, _, _, rfl, ?_⟩
      exact ⟨_, by split <;> omega, rfl, rfl⟩
    · rintro σ _ ⟨bal, hb0, rfl, rfl⟩
      have hct := hnu.ct1
      refine ⟨_, rfl, _, rfl, m, _, rfl, gg_ct hmw.hm, _, _, rfl, rfl, (by show (0 : Int) < c.ct; omega), ?_⟩
      refine ⟨_, rfl, _, _, rfl, rfl, (by show (0 : Int) < _; decide), ?_⟩
      have hix : 0 ≤ d % c.ct ∧ d % c.ct < c.ct := ⟨Int.emod_nonneg _ (by omega), Int.emod_lt_of_pos _ (by omega)⟩
      refine ⟨_, rfl, rfl, _, rfl, ifd (fun hk => ?_) (fun hk => ?_)⟩
      · obtain ⟨dP, dO, dV, dvs, hpw⟩ := id hpr
        obtain ⟨dx, ob⟩ := hpw.ob
        refine ⟨_, rfl, p, dx, _, rfl, ob, fl_Proposer_no_saw, _, rfl, p, f, ps, es, bal, rfl, hpr, fun hc G fp hp2 => ?_, fun hc G fp hp2 => ?_⟩
        · have hm2 := hmw.fp fp
          refine ⟨.bl false, rfl, .bl false, .ty "bool", .type "bool", .type "bool", true, rfl, .ty _, .base (.bl _), kit_ty (by decide +kernel), true, rfl, ifbt rfl ?_⟩
          refine ⟨_, rfl, _, rfl, _, rfl, m, c, bal, rfl, hm2.hm, fun _ H2 k2 e2 => ?_, fun z => ?_⟩
          · refine ⟨rfl, ?_⟩
            have hd2 := fp _ _ hd rfl
            have := q (f.sawF bal) { c with sn := mxI c.sn bal } ps es qs H2 ⟨hp2.mfr k2 fun x hx => hm2.lawO x (by rw [List.mem_singleton] at hx; rw [hx]; exact List.mem_cons_self), hm2.set k2 e2 rfl rfl, hno, k2 _ _ hd2 (hm2.ne_lst hd2), nums_saw hnu⟩
            rwa [← decide_eq_true (rfl : V.bl false = V.bl false)] at this
          · refine absurd z fun z => hc.elim (fun y => ?_) fun y => z.2 (hnu.st.trans y)
            have := z.1
            rw [hnu.b] at this
            omega
        · have hm2 := hmw.fp fp
          refine ⟨.bl true, rfl, .bl true, .ty "bool", .type "bool", .type "bool", true, rfl, .ty _, .base (.bl _), kit_ty (by decide +kernel), true, rfl, ifbt rfl ?_⟩
          refine ⟨_, rfl, _, rfl, _, rfl, m, c, bal, rfl, hm2.hm, fun z => ?_, fun _ oa H2 k2 f2 eo e2 => ?_⟩
          · refine absurd ⟨?_, fun y => hc (.inr (hnu.st.symm.trans y))⟩ z
            have h1 : ¬ bal ≤ f.b := fun y => hc (.inl y)
            rw [hnu.b]
            omega
          · refine ⟨rfl, ?_⟩
            have hd2 := fp _ _ hd rfl
            have := q { f.sawF bal with st := "idle" } { c with sn := mxI c.sn bal, st := "idle", oa := oa } ps [] [] H2 ⟨hp2.mfr k2 fun x hx => hm2.lawO x (by rw [List.mem_singleton] at hx; rw [hx]; exact List.mem_cons_self), hm2.fresh k2 e2 rfl f2 eo, ?_, k2 _ _ hd2 (hm2.ne_lst hd2), nums_idle (nums_sawn hnu)⟩
            · rwa [← decide_eq_true (rfl : V.bl true = V.bl true)] at this
            · simp only [List.mem_singleton]
              exact ne_of_none hd2 f2
      · dsimp only [tNext, tSeq, tIfS]
        refine or_use (x := decide (V.int (a % 10) = V.int 1)) (y := decide (V.str c.st = V.str "idle") && decide (a % 10 < 4)) (fun R r => ⟨_, rfl, rfl, _, rfl, r⟩) (fun R r => and_use (x := decide (V.str c.st = V.str "idle")) (y := decide (a % 10 < 4)) (fun R r => ⟨_, rfl, m, _, rfl, gg_st hmw.hm, rfl, _, rfl, r⟩) (fun R r => ⟨_, rfl, _, _, rfl, rfl, _, rfl, r⟩) r) ?_
        refine ifb2 (fun hkb => ?_) (fun hkb => ?_)
        · obtain ⟨dP, dO, dV, dvs, hpw⟩ := id hpr
          obtain ⟨dx, ob⟩ := hpw.ob
          refine ⟨_, rfl, p, dx, _, rfl, ob, fl_Proposer_no_begin, _, rfl, _, _, rfl, rfl, (by show (0 : Int) < _; decide), p, f, ps, es, d % 4, rfl, hpr, by rw [← hnu.ct]; omega, fun G fp hp2 => ?_⟩
          have hm2 := hmw.fp fp
          have hbb : begB c = nextB (mxI f.sn f.b) f.ix f.ct := by
            unfold begB
            rw [hnu.mx, hnu.ix, hnu.ct]
            refine beg_next ?_ (by rw [← hnu.ct]; omega) (by rw [← hnu.ct]; omega) (by rw [← hnu.ix]; exact hnu.ix1.1) (by rw [← hnu.ix, ← hnu.ct]; exact hnu.ix1.2)
            have := hnu.b0
            unfold mxI
            split <;> omega
          refine ⟨.int _, rfl, .int _, .ty "int", .type "int", .type "int", true, rfl, .ty _, .base (.int _), kit_ty (by decide +kernel), true, rfl, ifbt rfl ?_⟩
          refine ⟨_, rfl, _, rfl, _, rfl, _, _, rfl, rfl, (by show (0 : Int) < _; decide), m, c, d % 4, rfl, hm2.hm, by omega, fun pa oa H2 k2 f1 f2 npo e1 e2 e3 => ?_⟩
          refine ⟨rfl, ?_⟩
          have hd2 := fp _ _ hd rfl
          have := q { f with b := nextB (mxI f.sn f.b) f.ix f.ct, st := "preparing", nx := d % 4 } { c with b := begB c, sn := begB c, st := "preparing", fi := d % 4, pa := pa, oa := oa } [] [] [] H2 ⟨hp2.mfr k2 fun x hx => hm2.lawO x (by rw [List.mem_singleton] at hx; rw [hx]; exact List.mem_cons_self), ⟨e3, ⟨[], e1, trivial⟩, ⟨[], e2, trivial⟩, by simp [npo]⟩, ?_, k2 _ _ hd2 (hm2.ne_lst hd2), nums_begin hnu hbb (by omega) (by omega)⟩
          · rw [hbb]
            rwa [← decide_eq_true (rfl : V.int (nextB (mxI f.sn f.b) f.ix f.ct) = V.int (nextB (mxI f.sn f.b) f.ix f.ct))] at this
          · simp only [List.mem_singleton]
            exact ne_of_none hd2 f2
        · refine ⟨_, rfl, _, _, rfl, rfl, _, rfl, ifd (fun hk5 => ?_) (fun hk5 => ?_)⟩
          · refine ⟨Nat.zero_le _, fun o2 ho2 => ?_⟩
            have s1 := same_upd (o := .lst []) ho2
            have hmw1 := hmw.fp (FP.same s1)
            have e1 : (upd H o2 (.lst [])) o2 = some (.lst []) := upd_same
            generalize upd H o2 (.lst []) = H1 at s1 hmw1 e1
            have hfi := hnu.fi
            refine ⟨_, rfl, _, _, rfl, rfl, ⟨by decide, by decide⟩, _, _, rfl, rfl, (by show (0 : Int) < _; decide), _, rfl, (by omega), (by omega), ?_⟩
            refine for_range (lo := 0) (n := (a / 10 % 4).toNat) (fun j σ G => ∃ x11 us rs, σ = [some (.ref p), some (.ref m), some (.int a), some (.int b), some (.int d), some (.int bal), some (.int (d % c.ct)), some (.int (a % 10)), none, none, some (.ref o2), x11, none, none, none] ∧ Same H G ∧ G o2 = some (.lst us) ∧ RowsIs K G us rs ∧ rs.length = j ∧ (∀ r ∈ rs, 0 ≤ r.1 ∧ r.1 ≤ c.fi + 4) ∧ ∀ r ∈ rs, POk r.2.2)
              ⟨none, [], [], rfl, s1, e1, trivial, rfl, (fun _ z => by cases z), (fun _ z => by cases z)⟩ ?_ ?_
            · rintro j σ G hj ⟨x11, us, rs, rfl, s2, eu, hrs, hrl, hg, hk⟩
              have hmG := s2 _ _ hmw.hm
              refine ⟨.ref o2, rfl, .inl ⟨rfl, _, sql eu⟩, _, rfl, m, _, rfl, gg_fi hmG, _, rfl, _, _, rfl, rfl, ⟨by decide, by decide⟩, _, rfl, _, _, rfl, rfl, .inl ⟨by decide, by decide⟩, _, _, rfl, rfl, _, _, rfl, rfl, (by show (0 : Int) < _; decide), _, _, rfl, rfl, _, _, rfl, rfl, _, _, rfl, ?_⟩
              refine ⟨_, rfl, _, rfl, _, _, rfl, rfl, .inl ⟨by decide, by decide⟩, _, _, rfl, rfl, _, _, rfl, rfl, (by show (0 : Int) < _; decide), ?_⟩
              refine ⟨_, rfl, _, rfl, (by show 3 ≤ sizeLine; decide), fun tv htv => ⟨(by show 3 ≤ sizeLine; decide), fun tr htr => ?_⟩⟩
              have s3 := (same_upd (o := .tup [.str "v", .int a, .int (0 + (j : Int))]) htv)
              generalize hy : (if c.fi + (b / 7 + 2 * (0 + (j : Int))) % 6 - 1 > 0 then c.fi + (b / 7 + 2 * (0 + (j : Int))) % 6 - 1 else 0) = y at htr ⊢
              have hy2 : 0 ≤ y ∧ y ≤ c.fi + 4 := by
                have := Int.emod_nonneg (b / 7 + 2 * (0 + (j : Int))) (show (6 : Int) ≠ 0 by decide)
                have := Int.emod_lt_of_pos (b / 7 + 2 * (0 + (j : Int))) (show (0 : Int) < 6 by decide)
                rw [← hy]
                split <;> omega
              have s4 := s3.trans (same_upd (o := .tup [.int y, .int ((d + 3 * (0 + (j : Int))) % 10), .ref tv]) htr)
              have no2 : tr ≠ o2 := fun z => by rw [z, s3 _ _ eu] at htr; cases htr
              have ntv : tv ≠ tr := fun z => by rw [← z, upd_same] at htr; cases htr
              refine ⟨o2, us, _, rfl, rfl, s4 _ _ eu, szl (by have := rows_len hrs; omega), ?_⟩
              have etr : (upd (upd G tv (.tup [.str "v", .int a, .int (0 + (j : Int))])) tr (.tup [.int y, .int ((d + 3 * (0 + (j : Int))) % 10), .ref tv])) tr = some (.tup [.int y, .int ((d + 3 * (0 + (j : Int))) % 10), .ref tv]) := upd_same
              have etv : (upd (upd G tv (.tup [.str "v", .int a, .int (0 + (j : Int))])) tr (.tup [.int y, .int ((d + 3 * (0 + (j : Int))) % 10), .ref tv])) tv = some (.tup [.str "v", .int a, .int (0 + (j : Int))]) := by rw [upd_ne ntv, upd_same]
              generalize upd (upd G tv (.tup [.str "v", .int a, .int (0 + (j : Int))])) tr (.tup [.int y, .int ((d + 3 * (0 + (j : Int))) % 10), .ref tv]) = G2 at s4 etr etv
              have tkF : TK G2 (upd G2 o2 (.lst (us ++ [.ref tr]))) := fun t xs h => by
                rw [upd_ne (fun z => by rw [z, s4 _ _ eu] at h; cases h)]
                exact h
              refine ⟨some (.int (0 + (j : Int))), us ++ [.ref tr], rs ++ [(y, (d + 3 * (0 + (j : Int))) % 10, vVal a (0 + (j : Int)))], rfl, same_put (s2.trans s4) ho2, upd_same, rows_app (r := (y, (d + 3 * (0 + (j : Int))) % 10, vVal a (0 + (j : Int)))) ⟨tr, .ref tv, rfl, .inl (tkF _ _ etr), tv, rfl, .inl (tkF _ _ etv)⟩ (rows_tk ((TK.same s4).trans tkF) hrs), ?_, fun r hr => ?_, fun r hr => ?_⟩
              · rw [List.length_append, hrl]; rfl
              · rcases List.mem_append.mp hr with z | z
                · exact hg r z
                · rw [List.mem_singleton] at z
                  rw [z]
                  exact hy2
              · rcases List.mem_append.mp hr with z | z
                · exact hk r z
                · rw [List.mem_singleton] at z
                  rw [z]
                  exact pok_v _ _
            · rintro σ G ⟨x11, us, rs, rfl, s2, eu, hrs, hrl, hg, hk⟩
              have hrl3 : rs.length ≤ 3 := by omega
              refine ⟨_, rfl, o2, us, rfl, .inl ⟨sql eu, fun t0 ht0 => ?_⟩⟩
              have s3 := same_upd (o := .tup us) ht0
              have et0 : StT K (upd G t0 (.tup us)) t0 us := .inl upd_same
              have hrs0 := rows_tk (TK.same s3) hrs
              have eu0 := s3 _ _ eu
              have s4 := s2.trans s3
              generalize upd G t0 (.tup us) = G1 at s4 et0 hrs0 eu0
              have hm1 := s4 _ _ hmw.hm
              refine ⟨fun σ' G' => ∃ bs : Int, bs ≤ c.fi + 2 ∧ σ' = [some (.ref p), some (.ref m), some (.int a), some (.int b), some (.int d), some (.int bal), some (.int (d % c.ct)), some (.int (a % 10)), none, none, some (.ref o2), x11, some (.ref t0), some (.int bs), none] ∧ G1 = G', ?_, ?_⟩
              · refine ⟨_, rfl, _, _, rfl, rfl, (by show (0 : Int) < _; decide), rfl, _, rfl, ifd (fun hx => ?_) (fun hx => ⟨0, by omega, rfl, rfl⟩)⟩
                refine ⟨_, rfl, m, _, rfl, gg_fi hm1, _, rfl, _, _, rfl, rfl, ⟨by decide, by decide⟩, _, _, rfl, rfl, (by show (0 : Int) < _; decide), _, _, rfl, rfl, ?_⟩
                exact ⟨_, by omega, rfl, rfl⟩
              rintro σ _ ⟨bs, hbs, rfl, rfl⟩
              obtain ⟨dP, dO, dV, dvs, hpw⟩ := id (hpr.same s4)
              obtain ⟨dx, ob⟩ := hpw.ob
              have hid : f.st = "preparing" → es = [] := fun z => hnu.idle fun y => absurd (show Str.ofString "leading" = Str.ofString "preparing" from y.symm.trans (hnu.st.trans z)) (by decide +kernel)
              refine ⟨_, rfl, p, dx, _, rfl, ob, fl_Proposer_no_hear_promise, _, rfl, _, rfl, _, rfl, _, rfl, p, f, ps, es, d % c.ct, bal, bs, t0, us, rs, rfl, hpr.same s4, et0, hrs0, hid, hnu.pk, ?_, ?_, hnu.nx.1, ?_, fun hc l G2 s5 el => ?_, fun hc hq l G2 fp hp2 el => ?_, fun hc hq l ys G2 fp hp2 el hdp => ?_⟩
              · rw [List.length_append]
                have := hnu.rl
                omega
              · intro r hr
                have h1 := hnu.fn
                have h2 := hnu.nx
                rcases List.mem_append.mp hr with z | z
                · have := hnu.rg r z
                  omega
                · have := hg r z
                  omega
              · have := hnu.pl
                omega
              · have fp := FP.same s5
                have hp2 := (hpr.same s4).same s5
                refine ⟨.ref l, rfl, .ref l, .ty "list", .type "list", .type "list", true, rfl, .ty _, tyx_l (sql el), kit_ty (by decide +kernel), true, rfl, ifbt rfl ?_⟩
                have fpA := (FP.same s4).trans fp
                have hm2 := hmw.fp fpA
                have eu2 := fp _ _ eu0 rfl
                have hrs2 := rows_tk fp.tk hrs0
                have hd2 := fpA _ _ hd rfl
                refine ⟨_, rfl, _, rfl, _, rfl, _, rfl, _, rfl, _, rfl, o2, us, rfl, .inl ⟨sql eu2, fun t1 ht1 => ?_⟩⟩
                have s7 := same_upd (o := .tup us) ht1
                have et1 : StT K (upd G2 t1 (.tup us)) t1 us := .inl upd_same
                have hrs3 := rows_tk (TK.same s7) hrs2
                have hm3 := hm2.fp (FP.same s7)
                have hp3 := hp2.same s7
                have hd3' := s7 _ _ hd2
                have el3 := s7 _ _ el
                clear ht1 hm2 eu2
                generalize upd G2 t1 (.tup us) = G3 at s7 et1 hrs3 hm3 hp3 hd3' el3
                obtain ⟨xs, epa, hps⟩ := hm3.hp
                refine ⟨m, c, d % c.ct, bal, bs, t1, xs, us, ps, rs, rfl, hm3.hm, epa, hps, et1, hrs3, (by have := hnu.pl; omega), ?_, (by omega), ?_, ?_, ?_⟩
                · intro r hr
                  rcases List.mem_append.mp hr with z | z
                  · have := hnu.rg r z
                    omega
                  · have := hg r z
                    omega
                · intro _ l2 G4 s8 el2
                  refine ⟨.list [], .list [], .lst (sql (s8 _ _ el3)) .nil, .lst (sql el2) .nil, rfl, rfl, ?_⟩
                  have := q f c ps es qs G4 ⟨hp3.same s8, hm3.fp (FP.same s8), hno, s8 _ _ hd3', nums_up hnu⟩
                  rwa [eqv_self rfl]
                · intro z
                  rw [hnu.st, hnu.b] at z
                  exact absurd hc z
                · intro z
                  rw [hnu.st, hnu.b] at z
                  exact absurd hc z
              · have hst : f.st = "preparing" := Decidable.byContradiction fun z => hc (.inl z)
                have hi : d % c.ct ∉ ps.map (·.1) := fun z => hc (.inr (.inr z))
                have hes := hid hst
                subst hes
                have hst2 : c.st = "preparing" := hnu.st.trans hst
                have hct2 := hnu.ct
                refine ⟨.ref l, rfl, .ref l, .ty "list", .type "list", .type "list", true, rfl, .ty _, tyx_l (sql el), kit_ty (by decide +kernel), true, rfl, ifbt rfl ?_⟩
                have fpA := (FP.same s4).trans fp
                have hm2 := hmw.fp fpA
                have eu2 := fp _ _ eu0 rfl
                have hrs2 := rows_tk fp.tk hrs0
                have hd2 := fpA _ _ hd rfl
                refine ⟨_, rfl, _, rfl, _, rfl, _, rfl, _, rfl, _, rfl, o2, us, rfl, .inl ⟨sql eu2, fun t1 ht1 => ?_⟩⟩
                have s7 := same_upd (o := .tup us) ht1
                have et1 : StT K (upd G2 t1 (.tup us)) t1 us := .inl upd_same
                have hrs3 := rows_tk (TK.same s7) hrs2
                have hm3 := hm2.fp (FP.same s7)
                have hp3 := hp2.same s7
                have hd3' := s7 _ _ hd2
                have el3 := s7 _ _ el
                clear ht1 hm2 eu2
                generalize upd G2 t1 (.tup us) = G3 at s7 et1 hrs3 hm3 hp3 hd3' el3
                obtain ⟨xs, epa, hps⟩ := hm3.hp
                refine ⟨m, c, d % c.ct, bal, bs, t1, xs, us, ps, rs, rfl, hm3.hm, epa, hps, et1, hrs3, (by have := hnu.pl; omega), ?_, (by omega), ?_, ?_, ?_⟩
                · intro r hr
                  rcases List.mem_append.mp hr with z | z
                  · have := hnu.rg r z
                    omega
                  · have := hg r z
                    omega
                · intro z
                  rw [hnu.st, hnu.b] at z
                  exact absurd z hc
                · intro _ _ l2 pa zs G4 f4 fpa epa4 hps4 hm4 el2
                  have hne : ∀ x ∈ [m], LawO G3 x := fun x hx => hm3.lawO x (by rw [List.mem_singleton] at hx; rw [hx]; exact List.mem_cons_self)
                  have el4 := f4 _ _ el3 (hm3.ne_lst el3)
                  refine ⟨.list [], .list [], .lst (sql el4) .nil, .lst (sql el2) .nil, rfl, rfl, ?_⟩
                  obtain ⟨ws, eo, ho⟩ := hm3.ho
                  have tk4 := hm3.tk1 f4
                  have := q (promF f bs) (proM c bs pa) (ps ++ [(d % c.ct, rs)]) [] qs G4 ⟨hp3.mfr f4 hne, ⟨hm4, ⟨zs, epa4, hps4⟩, ⟨ws, f4 _ _ eo (hm3.ne_lst eo), mop_fr (fun y ys k => f4 _ _ k (hm3.ne_lst k)) tk4 ho⟩, ?_⟩, hno, f4 _ _ hd3' (hm3.ne_lst hd3'), nums_prom hnu hst2 hi hbs hrl3 hg hk⟩
                  · rwa [eqv_self rfl]
                  · refine List.nodup_cons.mpr ⟨fun z => ?_, (List.nodup_cons.mp hm3.nd).2⟩
                    rcases List.mem_cons.mp z with z | z
                    · have z2 : pa = c.oa := z
                      rw [z2, eo] at fpa
                      cases fpa
                    · obtain ⟨is, y⟩ := mop_mem ho z
                      have y2 : G3 pa = some (HO.lst (List.map V.int is)) := y
                      rw [y2] at fpa
                      cases fpa
                · intro _ z
                  exact absurd (by omega) z
              · have hst : f.st = "preparing" := Decidable.byContradiction fun z => hc (.inl z)
                have hi : d % c.ct ∉ ps.map (·.1) := fun z => hc (.inr (.inr z))
                have hes := hid hst
                subst hes
                have hst2 : c.st = "preparing" := hnu.st.trans hst
                have hct2 := hnu.ct
                refine ⟨.ref l, rfl, .ref l, .ty "list", .type "list", .type "list", true, rfl, .ty _, tyx_l (sql el), kit_ty (by decide +kernel), true, rfl, ifbt rfl ?_⟩
                have fpA := (FP.same s4).trans fp
                have hm2 := hmw.fp fpA
                have eu2 := fp _ _ eu0 rfl
                have hrs2 := rows_tk fp.tk hrs0
                have hd2 := fpA _ _ hd rfl
                refine ⟨_, rfl, _, rfl, _, rfl, _, rfl, _, rfl, _, rfl, o2, us, rfl, .inl ⟨sql eu2, fun t1 ht1 => ?_⟩⟩
                have s7 := same_upd (o := .tup us) ht1
                have et1 : StT K (upd G2 t1 (.tup us)) t1 us := .inl upd_same
                have hrs3 := rows_tk (TK.same s7) hrs2
                have hm3 := hm2.fp (FP.same s7)
                have hp3 := hp2.same s7
                have hd3' := s7 _ _ hd2
                have el3 := s7 _ _ el
                clear ht1 hm2 eu2
                generalize upd G2 t1 (.tup us) = G3 at s7 et1 hrs3 hm3 hp3 hd3' el3
                obtain ⟨xs, epa, hps⟩ := hm3.hp
                refine ⟨m, c, d % c.ct, bal, bs, t1, xs, us, ps, rs, rfl, hm3.hm, epa, hps, et1, hrs3, (by have := hnu.pl; omega), ?_, (by omega), ?_, ?_, ?_⟩
                · intro r hr
                  rcases List.mem_append.mp hr with z | z
                  · have := hnu.rg r z
                    omega
                  · have := hg r z
                    omega
                · intro z
                  rw [hnu.st, hnu.b] at z
                  exact absurd z hc
                · intro _ z
                  exact absurd hq (fun y => y (by omega))
                · intro _ _ l2 pa oa vs zs ws qs' G4 f4 fpa epa4 hps4 eo4 ho4 nd4 fr4 hm4 el2 hdp2
                  have hne : ∀ x ∈ [m], LawO G3 x := fun x hx => hm3.lawO x (by rw [List.mem_singleton] at hx; rw [hx]; exact List.mem_cons_self)
                  have hfn := (hnu.prep hst2).1
                  have hrw : ∀ r ∈ ps.flatMap (·.2) ++ rs, 0 ≤ r.1 := fun r hr => (List.mem_append.mp hr).elim (fun z => (hnu.rg r z).1) fun z => (hg r z).1
                  have h0 : 0 ≤ mxI c.fi bs := by unfold mxI; split <;> omega
                  have htop := top_two h0 hrw
                  have hop : openF f (ps.flatMap (·.2) ++ rs) bs = opened (ps.flatMap (·.2) ++ rs) (mxI c.fi bs) (openN (ps.flatMap (·.2) ++ rs) (mxI c.fi bs)) := by
                    unfold openF
                    rw [htop, hfn]
                  have hnl := nums_lead (pa := pa) (oa := oa) hnu hst2 hi hbs hrl3 hg hk
                  have hdp4 := dp_fr (noseq_m hm3.hm) f4 _ (dp_same s7 _ hdp)
                  refine ⟨_, _, hdp4, hdp2, ents_shaped hnl.ek, by rw [← hop]; exact ents_shaped hnl.ek, ?_⟩
                  rw [← hop] at ho4 ⊢
                  have := q (leadF f (ps.flatMap (·.2) ++ rs) bs) (leadM c (ps.flatMap (·.2) ++ rs) bs pa oa) (ps ++ [(d % c.ct, rs)]) (openF f (ps.flatMap (·.2) ++ rs) bs) qs' G4 ⟨hp3.mfr f4 hne, ⟨hm4, ⟨zs, epa4, hps4⟩, ⟨ws, eo4, ho4⟩, ?_⟩, ?_, f4 _ _ hd3' (hm3.ne_lst hd3'), hnl⟩
                  · rwa [eqv_self (ents_shaped hnl.ek)]
                  · exact nd4
                  · intro z
                    have := fr4 o z
                    rw [hd3'] at this
                    cases this
          · refine ⟨_, rfl, _, _, rfl, rfl, _, rfl, ifd (fun hk7 => ?_) (fun hk7 => ?_)⟩
            · obtain ⟨ws, eo, ho⟩ := hmw.ho
              have hfi := hnu.fi
              refine ⟨_, rfl, _, _, rfl, rfl, ⟨by decide, by decide⟩, _, _, rfl, rfl, (by show (0 : Int) < _; decide), ?_⟩
              refine ⟨fun σ' G' => ∃ sl : Int, σ' = [some (.ref p), some (.ref m), some (.int a), some (.int b), some (.int d), some (.int bal), some (.int (d % c.ct)), some (.int (a % 10)), none, none, none, none, none, none, some (.int sl)] ∧ H = G', ?_, ?_⟩
              · dsimp only [tNext, tSeq, tIfS]
                refine and_use (x := decide ((ws.length : Int) > 0)) (y := decide (b % 3 > 0)) (fun R r => ⟨_, rfl, m, _, rfl, gg_oa hmw.hm, c.oa, ws, rfl, .inl (sql eo), _, _, rfl, rfl, _, rfl, r⟩) (fun R r => ⟨_, rfl, _, _, rfl, rfl, (by show (0 : Int) < _; decide), _, _, rfl, rfl, _, rfl, r⟩) ?_
                refine ifb2 (fun hx => ?_) (fun _ => ⟨_, rfl, rfl⟩)
                have hwl : (ws.length : Int) > 0 := by
                  by_cases h : (ws.length : Int) > 0
                  · exact h
                  · rw [decide_eq_false h] at hx
                    cases hx
                have hj1 : (b / 3) % (ws.length : Int) < (ws.length : Int) := Int.emod_lt_of_pos _ hwl
                have hj0 : 0 ≤ (b / 3) % (ws.length : Int) := Int.emod_nonneg _ (by omega)
                obtain ⟨j, hj⟩ := Int.eq_ofNat_of_zero_le hj0
                have hjl : j < ws.length := by omega
                obtain ⟨e, q1, l, v, _, _, hxl, hl, _⟩ := mop_at ho (List.getElem?_eq_getElem hjl)
                refine ⟨_, rfl, m, _, rfl, gg_oa hmw.hm, _, rfl, _, _, rfl, rfl, ⟨by decide, by decide⟩, _, rfl, m, _, rfl, gg_oa hmw.hm, c.oa, ws, rfl, .inl (sql eo), _, _, rfl, rfl, hwl, ?_⟩
                refine ⟨c.oa, ws, _, .ref l, rfl, rfl, sql eo, (by rw [hj, ← hxl]; exact atI_nat (List.getElem?_eq_getElem hjl)), ?_⟩
                exact ⟨l, _, 0, .int e.1, rfl, rfl, sql hl, rfl, _, rfl, rfl⟩
              · rintro σ _ ⟨sl, rfl, rfl⟩
                obtain ⟨dP, dO, dV, dvs, hpw⟩ := id hpr
                obtain ⟨dx, ob⟩ := hpw.ob
                have hnd : (es.map (·.1)).Nodup := hnu.sl.imp fun h => by omega
                have hvl : ∀ e ∈ es, e.2.2.length ≤ 100 := fun e he => by have := (hnu.se e he).2; omega
                have hel : es.length ≤ 1000 := by
                  by_cases h : c.st = "leading"
                  · have := (hnu.lead h).2
                    omega
                  · rw [hnu.idle h]
                    exact Nat.zero_le _
                have hcc := hnu.ct
                have nd2 := List.nodup_cons.mp hmw.nd
                refine ⟨_, rfl, p, dx, _, rfl, ob, fl_Proposer_no_hear_accepted, _, rfl, _, rfl, _, rfl, p, f, ps, es, d % c.ct, bal, sl, rfl, hpr, hnd, hvl, fun hc => ?_, fun hc e he hes => ⟨fun hv G fp hp2 => ?_, fun hv v G fp hp2 hva => ?_⟩⟩
                · refine ⟨_, rfl, _, rfl, _, rfl, _, rfl, m, c, d % c.ct, bal, sl, ws, qs, es, rfl, hmw.hm, eo, ho, nd2.2, hnd, hel, hvl, fun _ => ?_, fun z => ?_⟩
                  · exact ⟨.none, .none, .non, .non, rfl, rfl, q f c ps es qs H ⟨hpr, hmw, hno, hd, nums_up hnu⟩⟩
                  · rw [hnu.st, hnu.b] at z
                    exact absurd hc z
                · have hm2 := hmw.fp fp
                  have eo2 := fp _ _ eo rfl
                  have ho2 := mop_fr (fun y ys k => fp _ _ k rfl) fp.tk ho
                  have hd2 := fp _ _ hd rfl
                  refine ⟨_, rfl, _, rfl, _, rfl, _, rfl, m, c, d % c.ct, bal, sl, ws, qs, es, rfl, hm2.hm, eo2, ho2, nd2.2, hnd, hel, hvl, fun z => ?_, fun _ e2 he2 hes2 => ⟨fun hv2 G2 f2 ho3 => ?_, fun hv2 => ?_⟩⟩
                  · rw [hnu.st, hnu.b] at z
                    exact absurd z hc
                  · obtain ⟨xs, epa, hps⟩ := hm2.hp
                    have nq : ∀ {x : Addr}, x ∈ qs → ∃ is : List Int, G x = some (.lst (is.map V.int)) := fun hx => mop_mem ho2 hx
                    have tk2 : TK G G2 := fun t ts h => f2 _ _ h fun z => by
                      obtain ⟨is, y⟩ := nq z
                      rw [y] at h
                      cases h
                    refine ⟨.none, .none, .non, .non, rfl, rfl, q f c ps (voteE es sl (d % c.ct)) qs G2 ⟨hp2.mfr f2 fun x hx => hm2.lawO x (List.mem_cons_of_mem _ (List.mem_cons_of_mem _ hx)), ⟨f2 _ _ hm2.hm fun z => ?_, ⟨xs, f2 _ _ epa fun z => nd2.1 (List.mem_cons_of_mem _ z), mps_tk tk2 hps⟩, ⟨ws, f2 _ _ eo2 (List.nodup_cons.mp nd2.2).1, ho3⟩, hmw.nd⟩, hno, f2 _ _ hd2 fun z => hno (List.mem_cons_of_mem _ z), nums_vote hnu⟩⟩
                    obtain ⟨is, y⟩ := nq z
                    have := hm2.hm
                    rw [y] at this
                    cases this
                  · have hee : e2 = e := ent_uniq hnd he2 he (hes2.trans hes.symm)
                    rw [hee] at hv2
                    exact absurd hv (by omega)
                · have hm2 := hmw.fp fp
                  have eo2 := fp _ _ eo rfl
                  have ho2 := mop_fr (fun y ys k => fp _ _ k rfl) fp.tk ho
                  have hd2 := fp _ _ hd rfl
                  refine ⟨_, rfl, _, rfl, _, rfl, _, rfl, m, c, d % c.ct, bal, sl, ws, qs, es, rfl, hm2.hm, eo2, ho2, nd2.2, hnd, hel, hvl, fun z => ?_, fun _ e2 he2 hes2 => ⟨fun hv2 => ?_, fun hv2 oa us qs' v2 G2 f2 foa eoa ho3 sub hm3 hva2 => ?_⟩⟩
                  · rw [hnu.st, hnu.b] at z
                    exact absurd z hc
                  · have hee : e2 = e := ent_uniq hnd he2 he (hes2.trans hes.symm)
                    rw [hee] at hv2
                    exact absurd hv (by omega)
                  · have hee : e2 = e := ent_uniq hnd he2 he (hes2.trans hes.symm)
                    rw [hee] at hva2
                    obtain ⟨xs, epa, hps⟩ := hm2.hp
                    have nq : ∀ {x : Addr}, x ∈ qs → ∃ is : List Int, G x = some (.lst (is.map V.int)) := fun hx => mop_mem ho2 hx
                    have nm : ∀ {x : Addr} {ys : List V}, G x = some (.lst ys) → x ≠ m := fun h z => by
                      have := hm2.hm
                      rw [← z, h] at this
                      cases this
                    have tk2 : TK G G2 := fun t ts h => f2 _ _ h fun z => by
                      rcases List.mem_cons.mp z with y | z
                      · rw [y, hm2.hm] at h
                        cases h
                      · obtain ⟨is, y⟩ := nq z
                        rw [y] at h
                        cases h
                    have nm2 : ∀ {x : Addr} {ys : List V}, G x = some (.lst ys) → x ∉ qs → x ∉ m :: qs := fun h n z => (List.mem_cons.mp z).elim (nm h) n
                    have hsh := val_shaped (hnu.ek e he)
                    have := q f { c with oa := oa } ps (dropE es sl) qs' G2 ⟨hp2.mfr f2 fun x hx => hm2.lawO x ((List.mem_cons.mp hx).elim (fun z => by rw [z]; exact List.mem_cons_self) fun z => List.mem_cons_of_mem _ (List.mem_cons_of_mem _ z)), ⟨hm3, ⟨xs, f2 _ _ epa (nm2 epa fun z => nd2.1 (List.mem_cons_of_mem _ z)), mps_tk tk2 hps⟩, ⟨us, eoa, ho3⟩, ?_⟩, ?_, f2 _ _ hd2 (nm2 hd2 fun z => hno (List.mem_cons_of_mem _ z)), nums_drop hnu⟩
                    · refine ⟨_, _, (hva.tk tk2).dp, hva2.dp, hsh, hsh, ?_⟩
                      rwa [eqv_self hsh]
                    · refine List.nodup_cons.mpr ⟨fun z => ?_, List.nodup_cons.mpr ⟨fun z => ?_, (List.nodup_cons.mp nd2.2).2.sublist sub⟩⟩
                      · rcases List.mem_cons.mp z with z | z
                        · have z2 : c.pa = oa := z
                          rw [← z2, epa] at foa
                          cases foa
                        · exact nd2.1 (List.mem_cons_of_mem _ (sub.mem z))
                      · obtain ⟨is, y⟩ := nq (sub.mem z)
                        have y2 : G oa = some (.lst (is.map V.int)) := y
                        rw [y2] at foa
                        cases foa
                    · intro z
                      rcases List.mem_cons.mp z with z | z
                      · have z2 : o = oa := z
                        rw [← z2, hd2] at foa
                        cases foa
                      · exact hno (List.mem_cons_of_mem _ (sub.mem z))
            · refine ⟨_, rfl, _, _, rfl, rfl, _, rfl, ifd (fun hk9 => ?_) (fun hk9 => ?_)⟩
              · exact ⟨_, rfl, _, rfl, _, rfl, p, m, o, 7, a, ds, f, c, ps, es, qs, n, rfl, hW, hn, fun f' c' es' qs' H' h => q f' c' ps es' qs' H' h⟩
              refine ⟨_, rfl, _, _, rfl, rfl, (by show (0 : Int) < _; decide), rfl, _, rfl, ifd (fun hb4 => ?_) (fun hb4 => ?_)⟩
              · exact ⟨_, rfl, _, rfl, _, rfl, p, m, o, 9, a, ds, f, c, ps, es, qs, n, rfl, hW, hn, fun f' c' es' qs' H' h => q f' c' ps es' qs' H' h⟩
              obtain ⟨dP, dO, dV, dvs, hpw⟩ := id hpr
              obtain ⟨dx, ob⟩ := hpw.ob
              refine ⟨_, rfl, p, dx, _, rfl, ob, fl_Proposer_no_saw, p, f, ps, es, 0, rfl, hpr, fun _ G fp hp2 => ?_, fun hc => absurd (.inl hnu.b0) hc⟩
              refine ⟨_, _, rfl, rfl, ?_⟩
              have := q (f.sawF 0) c ps es qs G ⟨hp2, hmw.fp fp, hno, fp _ _ hd rfl, nums_saw0 hnu⟩
              exact this
end
def oneD (e : PEnt) : PyData := .list [.int e.1, valD e.2.1, .list (e.2.2.map PyData.int)]
theorem mop_dp {K : PySem.W.Frag} {H : Hp} : ∀ {xs : List V} {qs : List Addr} {es : List PEnt}, MOp K H xs qs es → DpAll K H xs (es.map oneD)
  | [], [], [], _ => .nil
  | _ :: _, _ :: _, _ :: _, ⟨⟨l, v, e, b, c, d⟩, r⟩ => .cons (by rw [e]; exact .lst (sql b) (.cons (.int _) (.cons c.dp (.cons (dp_ints (sql d)) .nil)))) (mop_dp r)
theorem md0 (ct ix : Int) (pa oa : Addr) : putK (putK (putK (mergeK [] [(.inr "count", .int ct), (.inr "index", .int ix), (.inr "ballot", .int 0), (.inr "seen", .int 0), (.inr "state", .str "idle"), (.inr "first", .int 0)]) (.inr "free") (.int 0)) (.inr "promises") (.ref pa)) (.inr "open") (.ref oa) = stK ⟨ct, ix, 0, 0, "idle", 0, 0, pa, oa⟩ := rfl
def sp_law (K : PySem.W.Frag) : Sp := fun vs H Q _ => ∃ (a : Addr) (ns : List Int), vs = [.ref a] ∧ SqL K H a (ns.map V.int) ∧ ns.length ≤ 63 ∧ ∀ H', Q (.bl true) H'
theorem filter_some {α β : Type} (g : α → β) (es : List α) : es.filterMap (fun e => some (g e)) = es.map g := by
  induction es with
  | nil => rfl
  | cons e r ih => simp
theorem counts_at (x : Int) : ∃ ct : Int, atI [V.int 3, V.int 3, V.int 1, V.int 5, V.int 2, V.int 4] (x % 6) = some (.int ct) ∧ 1 ≤ ct ∧ ct ≤ 5 := by
  have h0 := Int.emod_nonneg x (show (6 : Int) ≠ 0 by decide)
  have h1 := Int.emod_lt_of_pos x (show (0 : Int) < 6 by decide)
  generalize x % 6 = y at h0 h1
  have h : y = 0 ∨ y = 1 ∨ y = 2 ∨ y = 3 ∨ y = 4 ∨ y = 5 := by omega
  rcases h with rfl | rfl | rfl | rfl | rfl | rfl
  · exact ⟨3, rfl, by decide, by decide⟩
  · exact ⟨3, rfl, by decide, by decide⟩
  · exact ⟨1, rfl, by decide, by decide⟩
  · exact ⟨5, rfl, by decide, by decide⟩
  · exact ⟨2, rfl, by decide, by decide⟩
  · exact ⟨4, rfl, by decide, by decide⟩
section
variable {P : Program} {w : World} {K : PySem.W.Frag} {mg : Str → Option Value} {base : Heap}
theorem ok_law (T : TX K mg) : FnOk P w K mg base CX0 5 T.a_law T.d_law ["script"] (sp_law K) := by
  refine T.F_law.ok sc_law (fun vs H Q E h => ?_) (fun cdv A outer s H vs Q E hr h => ?_)
  · obtain ⟨a, ns, rfl, _⟩ := h
    rfl
  · obtain ⟨A0, ns, rfl, hS, hns, q⟩ := h
    refine ⟨_, (pss_cons (ps_set (i := 1) sc_law.nd rfl (Or.inl rfl) (pe_call (ok__law_draws T) (hr.mono (by decide)) (by rfl) T.g__law_draws T.F__law_draws.kp T.b__law_draws .nil pass0 (pa_cons (pv 0) pa_nil)))
      (pss_cons (ps_set (i := 2) sc_law.nd rfl (Or.inl rfl) pe_int)
      (pss_cons (ps_set (i := 3) sc_law.nd rfl (Or.inl rfl) pe_int)
      (C8.pss_cut (ps_if (pt_cmpR op_gt (pe_callB call_len_seq (by rfl) T.n_len PySem.boot_len (pa_cons (pv 1) pa_nil)) pe_int (nomark _)) (pss_cons (ps_set (i := 2) sc_law.nd rfl (Or.inl rfl) (pe_ix ix_list (pe_lst (pa_cons pe_int (pa_cons pe_int (pa_cons pe_int (pa_cons pe_int (pa_cons pe_int (pa_cons pe_int pa_nil))))))) (pe_op op_mod (pe_ix ix_list (pv 1) pe_int (fun _ _ => rfl)) pe_int) (fun _ _ => rfl)))
        (pss_one (ps_set (i := 3) sc_law.nd rfl (Or.inl rfl) (pe_op op_mod (pe_ix ix_list (pv 1) pe_int (fun _ _ => rfl)) (pv 2))))) pss_nil)
      (pss_cons (ps_set (i := 4) sc_law.nd rfl (Or.inl rfl) (pe_make T.M_Proposer (ok_Proposer___init__ T) (hr.mono (by decide)) (by rfl) T.g_Proposer T.b_Proposer___init__ .nil pass0 (pa_cons (pv 3) (pa_cons (pv 2) pa_nil))))
      (pss_cons (ps_set (i := 5) sc_law.nd rfl (Or.inl rfl) (pe_disp (pps_cons pe_str (pv 2) (pps_cons pe_str (pv 3) (pps_cons pe_str pe_int (pps_cons pe_str pe_int (pps_cons pe_str pe_str (pps_cons pe_str pe_int pps_nil)))))) rfl rfl (by simp) (by decide)))
      (pss_cons (ps_dput (hu_of hr) (pv 5) pe_str pe_int rfl)
      (pss_cons (ps_dput (hu_of hr) (pv 5) pe_str (pe_lst pa_nil) rfl)
      (pss_cons (ps_dput (hu_of hr) (pv 5) pe_str (pe_lst pa_nil) rfl)
      (pss_cons (ps_for PassesOwn.never rfl (pi_range1 (by rfl) T.n_range (pa_cons (pe_callB (call_min2 rfl) (by rfl) T.n_min (by decide +kernel) (pa_cons pe_int (pa_cons (pe_op op_fdiv (pe_callB (call_max2 rfl) (by rfl) T.n_max (by decide +kernel) (pa_cons pe_int (pa_cons (pe_op op_sub (pe_callB call_len_seq (by rfl) T.n_len PySem.boot_len (pa_cons (pv 1) pa_nil)) pe_int) pa_nil))) pe_int) pa_nil))) pa_nil)) (pg_name (i := 6) sc_law.nd rfl (Or.inl rfl))
        (pss_cons (ps_if (pt_not (pt_val (pe_call (ok__law_deed T) (hr.mono (by decide)) (by rfl) T.g__law_deed T.F__law_deed.kp T.b__law_deed .nil pass0 (pa_cons (pv 4) (pa_cons (pv 5) (pa_cons (pe_ix ix_list (pv 1) (pe_op op_add (pe_op op_mul pe_int (pv 6)) pe_int) (fun _ _ => rfl)) (pa_cons (pe_ix ix_list (pv 1) (pe_op op_add (pe_op op_mul pe_int (pv 6)) pe_int) (fun _ _ => rfl)) (pa_cons (pe_ix ix_list (pv 1) (pe_op op_add (pe_op op_mul pe_int (pv 6)) pe_int) (fun _ _ => rfl)) pa_nil)))))))) (pss_one (ps_ret pe_bl)) pss_nil)
        (pss_cons (ps_if (PW.pt (pw_or (pt_cmpR op_ne (pe_fld (pv 4) rfl) (pe_dget (hu_of hr) (pv 5) pe_str (fun _ _ => rfl)) (nomark _)) (pw_or1 (pt_cmpR op_ne (pe_fld (pv 4) rfl) (pe_dget (hu_of hr) (pv 5) pe_str (fun _ _ => rfl)) (nomark _))))) (pss_one (ps_ret pe_bl)) pss_nil)
        (pss_one (ps_if (pt_cmpR (op_neD hr.units) (pe_meth0 (pv 4) T.K_Proposer T.m_Proposer_open_proposals (ok_Proposer_open_proposals T) (hr.mono (by decide)) T.b_Proposer_open_proposals .nil pass0) (pe_lc (own := [("one", 7)]) (g := gName 7) (tt := tYes) (by rfl) sc_law.nd (pi_list (pe_dget (hu_of hr) (pv 5) pe_str (fun _ _ => rfl))) (blkOk_by (own := [("one", 7)]) (N := ["script", "draws", "count", "index", "proposer", "model", "k", "one"]) (sc := defScope s_law) (by decide +kernel)) (fun _ _ _ _ _ => pg_name (i := 7) sc_law.nd rfl (Or.inl rfl)) (fun _ _ _ _ _ => pts_nil) (fun _ _ _ _ _ => (pe_tup (pa_cons (pe_ix (ixK_list (K := K) rfl) (pv 7) pe_int (fun _ _ => rfl)) (pa_cons (pe_ix (ixK_list (K := K) rfl) (pv 7) pe_int (fun _ _ => rfl)) pa_nil))))) (nomark _)) (pss_one (ps_ret pe_bl)) pss_nil)))))
      (pss_one (ps_ret (pe_cmpR (op_eqD hr.units) (pe_meth0 (pv 4) T.K_Proposer T.m_Proposer_open_proposals (ok_Proposer_open_proposals T) (hr.mono (by decide)) T.b_Proposer_open_proposals .nil pass0) (pe_lc (own := [("one", 7)]) (g := gName 7) (tt := tYes) (by rfl) sc_law.nd (pi_list (pe_dget (hu_of hr) (pv 5) pe_str (fun _ _ => rfl))) (blkOk_by (own := [("one", 7)]) (N := ["script", "draws", "count", "index", "proposer", "model", "k", "one"]) (sc := defScope s_law) (by decide +kernel)) (fun _ _ _ _ _ => pg_name (i := 7) sc_law.nd rfl (Or.inl rfl)) (fun _ _ _ _ _ => pts_nil) (fun _ _ _ _ _ => (pe_tup (pa_cons (pe_ix (ixK_list (K := K) rfl) (pv 7) pe_int (fun _ _ => rfl)) (pa_cons (pe_ix (ixK_list (K := K) rfl) (pv 7) pe_int (fun _ _ => rfl)) pa_nil))))) (nomark _)))))))))))))), ?_⟩
    refine ⟨_, rfl, A0, ns, rfl, hS, fun o H1 ds ho s1 eo hdr hlen => ?_⟩
    refine ⟨fun σ' G => ∃ ct ix : Int, (1 ≤ ct ∧ ct ≤ 5) ∧ (0 ≤ ix ∧ ix < ct) ∧ σ' = [some (.ref A0), some (.ref o), some (.int ct), some (.int ix), none, none, none, none] ∧ Same H1 G, ?_, ?_⟩
    · refine ⟨_, rfl, o, _, rfl, .inl (sql eo), _, _, rfl, rfl, _, rfl, ifd (fun hx => ?_) (fun hx => ⟨3, 0, by omega, by omega, rfl, Same.refl _⟩)⟩
      rw [List.length_map] at hx
      refine ⟨(by show 6 ≤ sizeLine; decide), fun l hl => ?_⟩
      have sl := same_upd (o := .lst [.int 3, .int 3, .int 1, .int 5, .int 2, .int 4]) hl
      obtain ⟨ct, hct, hc1, hc5⟩ := counts_at ds[0]
      refine ⟨_, rfl, o, _, 0, .int ds[0], rfl, rfl, sql (sl _ _ eo), at_map (i := 0) (List.getElem?_eq_getElem (by omega)), _, _, rfl, rfl, (by show (0 : Int) < _; decide), l, _, _, _, rfl, rfl, sql upd_same, hct, ?_⟩
      refine ⟨_, rfl, o, _, 1, .int ds[1], rfl, rfl, sql (sl _ _ eo), at_map (i := 1) (List.getElem?_eq_getElem (by omega)), _, rfl, _, _, rfl, rfl, (by show (0 : Int) < ct; omega), ?_⟩
      exact ⟨ct, ds[1] % ct, ⟨hc1, hc5⟩, ⟨Int.emod_nonneg _ (by omega), Int.emod_lt_of_pos _ (by omega)⟩, rfl, sl⟩
    · rintro σ H2 ⟨ct, ix, hct, hix, rfl, s2⟩
      have eo2 := s2 _ _ eo
      refine ⟨_, rfl, _, rfl, fun p dx hp hdx npdx => ⟨p, dx, ix, ct, rfl, upd_same, fun H3 hpr3 f3 => ⟨rfl, ?_⟩⟩⟩
      refine fun m hm => ⟨_, rfl, _, rfl, upd_same, [(.inr "count", .int ct), (.inr "index", .int ix), (.inr "ballot", .int 0), (.inr "seen", .int 0), (.inr "state", .str "idle"), (.inr "first", .int 0)], rfl, (by show 6 ≤ 15; decide), ?_⟩
      rw [upd_upd]
      refine ⟨_, rfl, m, _, rfl, DPut.k (k := .inr ("free" : Str)) upd_same (by show 6 < sizeLine; decide), ?_⟩
      rw [upd_upd]
      refine ⟨Nat.zero_le _, fun pa hpa => ?_⟩
      have npm : pa ≠ m := fun z => by rw [z, upd_same] at hpa; cases hpa
      refine ⟨_, rfl, m, _, rfl, DPut.k (k := .inr ("promises" : Str)) (by rw [upd_ne npm.symm, upd_same]) (by show 7 < sizeLine; decide), ?_⟩
      refine ⟨Nat.zero_le _, fun oa hoa => ?_⟩
      have nom : oa ≠ m := fun z => by rw [z, upd_same] at hoa; cases hoa
      refine ⟨_, rfl, m, _, rfl, DPut.k (k := .inr ("open" : Str)) (by rw [upd_ne nom.symm, upd_same]) (by show 8 < sizeLine; decide), ?_⟩
      have fpa : H3 pa = none := by rw [upd_ne npm] at hpa; exact hpa
      have nop : oa ≠ pa := fun z => by rw [z, upd_ne npm, upd_same] at hoa; cases hoa
      have foa : H3 oa = none := by rw [upd_ne nom, upd_ne nop, upd_ne nom] at hoa; exact hoa
      generalize hG0 : upd (upd (upd (upd (upd H3 m _) pa _) m _) oa _) m _ = G0
      have e1 : G0 m = some (.dK (stK ⟨ct, ix, 0, 0, "idle", 0, 0, pa, oa⟩)) := by rw [← hG0, ← md0]; exact upd_same
      have e2 : G0 pa = some (.lst []) := by rw [← hG0, upd_ne npm, upd_ne nop.symm, upd_ne npm, upd_same]
      have e3 : G0 oa = some (.lst []) := by rw [← hG0, upd_ne nom, upd_same]
      have sG : Same H3 G0 := fun x w hx => by
        have n1 := ne_of_none hx hm
        have n2 := ne_of_none hx fpa
        have n3 := ne_of_none hx foa
        rw [← hG0, upd_ne n1, upd_ne n3, upd_ne n1, upd_ne n2, upd_ne n1]
        exact hx
      clear hG0
      have eoG : G0 o = some (.lst (ds.map V.int)) := by
        have h1 : o ≠ p := fun z => by rw [← z, eo2] at hp; cases hp
        have h2 : o ≠ dx := fun z => by rw [← z, eo2] at hdx; cases hdx
        exact sG _ _ (f3 _ _ (by rw [upd_ne h1, upd_ne h2]; exact eo2) (by simpa using h1))
      have W0 : WK T.a_Proposer K G0 p m o ds ⟨0, "idle", ix, ct, 0, 0⟩ ⟨ct, ix, 0, 0, "idle", 0, 0, pa, oa⟩ [] [] [] 0 := by
        refine ⟨hpr3.same sG, ⟨e1, ⟨[], e2, trivial⟩, ⟨[], e3, trivial⟩, by simp [nop.symm]⟩, ?_, eoG, ?_⟩
        · intro z
          rw [List.mem_singleton] at z
          have z2 : o = oa := z
          have h1 : o ≠ p := fun z => by rw [← z, eo2] at hp; cases hp
          have h2 : o ≠ dx := fun z => by rw [← z, eo2] at hdx; cases hdx
          rw [← z2, f3 _ _ (by rw [upd_ne h1, upd_ne h2]; exact eo2) (by simpa using h1)] at foa
          cases foa
        · exact { b := rfl, st := rfl, ct := rfl, ix := rfl, mx := rfl, b0 := Int.le_refl _, ct1 := hct, ix1 := hix, idle := fun _ => rfl
                  prep := fun z => absurd (show Str.ofString "idle" = Str.ofString "preparing" from z) (by decide +kernel)
                  lead := fun z => absurd (show Str.ofString "idle" = Str.ofString "leading" from z) (by decide +kernel)
                  fn := Int.le_refl _, fi := ⟨Int.le_refl _, (by show (0 : Int) ≤ 3; decide)⟩, nx := ⟨Int.le_refl _, (by show (0 : Int) ≤ 10; decide)⟩
                  rg := (fun _ z => by cases z), pk := List.nodup_nil, pl := Nat.le_refl _, rl := Nat.le_refl _, sl := List.Pairwise.nil, se := (fun _ z => by cases z), rk := (fun _ z => by cases z), ek := (fun _ z => by cases z) }
      clear e1 e2 e3 eoG hpa hoa
      have hdl := W0.hd
      refine ⟨_, rfl, o, _, rfl, .inl (sql hdl), _, _, rfl, rfl, _, _, rfl, _, _, rfl, rfl, ⟨by decide, by decide⟩, _, _, rfl, _, rfl, ?_, ?_, ?_⟩
      · rw [List.length_map]; split <;> split <;> omega
      · rw [List.length_map]; split <;> split <;> omega
      refine for_range (lo := 0) (n := _) (fun i σ G => ∃ f c ps es qs x6, σ = [some (.ref A0), some (.ref o), some (.int ct), some (.int ix), some (.ref p), some (.ref m), x6, none] ∧ WK T.a_Proposer K G p m o ds f c ps es qs i ∧ i ≤ 60) ⟨_, _, [], [], [], none, rfl, W0, by decide⟩ ?_ ?_
      · rintro i σ G hi ⟨f, c, ps, es, qs, x6, rfl, hW, _⟩
        have hil : 3 * i + 4 < ds.length ∧ i < 60 := by
          rw [List.length_map] at hi
          revert hi
          split <;> split <;> omega
        have g0 : ∀ k : Nat, k < 5 → ∀ h : 3 * i + k < ds.length, atI (ds.map V.int) (3 * (0 + (i : Int)) + (k : Int)) = some (.int ds[3 * i + k]) := fun k _ h => by
          have : 3 * (0 + (i : Int)) + (k : Int) = ((3 * i + k : Nat) : Int) := by omega
          rw [this]
          exact at_map (List.getElem?_eq_getElem h)
        have hd := hW.hd
        have hb : ∀ k : Nat, ∀ h : 3 * i + k < ds.length, 0 ≤ ds[3 * i + k] ∧ ds[3 * i + k] < 1000 := fun k h => hdr _ (List.getElem_mem h)
        refine ⟨_, rfl, _, rfl, _, rfl, _, rfl, _, _, rfl, rfl, .inl ⟨by decide, by decide⟩, _, _, rfl, rfl, o, _, _, _, rfl, rfl, sql hd, g0 2 (by decide) (by omega), ?_⟩
        refine ⟨_, rfl, _, rfl, _, _, rfl, rfl, .inl ⟨by decide, by decide⟩, _, _, rfl, rfl, o, _, _, _, rfl, rfl, sql hd, g0 3 (by decide) (by omega), ?_⟩
        refine ⟨_, rfl, _, rfl, _, _, rfl, rfl, .inl ⟨by decide, by decide⟩, _, _, rfl, rfl, o, _, _, _, rfl, rfl, sql hd, g0 4 (by decide) (by omega), ?_⟩
        refine ⟨p, m, o, _, _, _, ds, f, c, ps, es, qs, i, rfl, hW, by omega, hb 2 (by omega), hb 3 (by omega), hb 4 (by omega), fun f c ps es qs G hW => ?_⟩
        refine ⟨true, rfl, ifbf rfl ?_⟩
        obtain ⟨dP, dO, dV, dvs, hpw⟩ := id hW.pr
        obtain ⟨dx', ob⟩ := hpw.ob
        have hel : es.length < 64 := by
          by_cases h : c.st = "leading"
          · have := (hW.nu.lead h).2
            omega
          · rw [hW.nu.idle h]
            exact Nat.succ_pos _
        dsimp only [tNext, tSeq, tIfS]
        refine or_use (x := !decide (V.int f.b = V.int c.b)) (y := !decide (V.str f.st = V.str c.st)) (fun R r => ⟨_, rfl, p, _, dx', _, _, rfl, ob, T.K_Proposer, T.na_Proposer_ballot, fl_Proposer_ballot, _, rfl, m, _, rfl, gg_b hW.mw.hm, rfl, _, rfl, r⟩) (fun R r => ⟨_, rfl, p, _, dx', _, _, rfl, ob, T.K_Proposer, T.na_Proposer_state, fl_Proposer_state, _, rfl, m, _, rfl, gg_st hW.mw.hm, rfl, _, rfl, r⟩) ?_
        rw [decide_eq_true (congrArg V.int hW.nu.b.symm), decide_eq_true (congrArg V.str hW.nu.st.symm)]
        refine ifbf rfl ?_
        refine ⟨_, rfl, p, dx', _, rfl, ob, fl_Proposer_no_open_proposals, p, f, ps, es, rfl, hW.pr, hel, hW.nu.sl, fun l xs G2 s5 el hdp => ?_⟩
        have hm2 := hW.mw.fp (FP.same s5)
        obtain ⟨ws, eo5, ho5⟩ := hm2.ho
        refine ⟨_, rfl, m, _, rfl, gg_oa hm2.hm, c.oa, rfl, ⟨_, sql eo5⟩, fun D hD => ?_⟩
        refine lcd (K := K) es oneD (fun e => some (entD e)) hD (sql eo5) (mop_dp ho5) (by omega) ?_ ?_
        · intro x e G3 he s6 hDl hdp J j1 j2
          cases hdp with
          | lst hsq hall =>
            cases hall with
            | cons h1 hall =>
              cases h1
              cases hall with
              | cons h2 hall =>
                refine ⟨rfl, ?_⟩
                dsimp only [tYes]
                refine (if_pos rfl).mpr ?_
                refine ⟨_, rfl, _, _, 0, .int e.1, rfl, rfl, s6.seq hsq, atI_nat (j := 0) rfl, _, rfl, _, _, 1, _, rfl, rfl, s6.seq hsq, atI_nat (j := 1) rfl, (by show 2 ≤ sizeLine; decide), fun t ht => ?_⟩
                refine j2 (.ref t) (entD e) _ (same_upd ht) (fun G2 s7 off => ?_) rfl
                have nt : t ≠ D := fun z => by
                  obtain ⟨l, hl⟩ := hDl
                  rw [z, hl] at ht
                  cases ht
                exact .tup (sqt (off _ _ nt upd_same)) (.cons (.int _) (.cons (dp_same s7 _ h2) .nil))
        · intro G3 ys s6 e6 h6
          rw [filter_some] at h6
          have hsh := ents_shaped hW.nu.ek
          refine ⟨_, _, dp_same s6 _ hdp, .lst (sql e6) h6, hsh, hsh, ?_⟩
          rw [eqv_self hsh]
          refine ⟨false, rfl, ifbf rfl ?_⟩
          have sA := s5.trans s6
          exact ⟨f, c, ps, es, qs, _, rfl, ⟨hW.pr.same sA, hW.mw.fp (FP.same sA), hW.no, sA _ _ hW.hd, hW.nu⟩, by omega⟩
      · rintro σ G ⟨f, c, ps, es, qs, x6, rfl, hW, hi⟩
        obtain ⟨dP, dO, dV, dvs, hpw⟩ := id hW.pr
        obtain ⟨dx', ob⟩ := hpw.ob
        have hel : es.length < 64 := by
          by_cases h : c.st = "leading"
          · have := (hW.nu.lead h).2
            omega
          · rw [hW.nu.idle h]
            exact Nat.succ_pos _
        refine ⟨_, rfl, p, dx', _, rfl, ob, fl_Proposer_no_open_proposals, p, f, ps, es, rfl, hW.pr, hel, hW.nu.sl, fun l xs G2 s5 el hdp => ?_⟩
        have hm2 := hW.mw.fp (FP.same s5)
        obtain ⟨ws, eo5, ho5⟩ := hm2.ho
        refine ⟨_, rfl, m, _, rfl, gg_oa hm2.hm, c.oa, rfl, ⟨_, sql eo5⟩, fun D hD => ?_⟩
        refine lcd (K := K) es oneD (fun e => some (entD e)) hD (sql eo5) (mop_dp ho5) (by omega) ?_ ?_
        · intro x e G3 he s6 hDl hdp J j1 j2
          cases hdp with
          | lst hsq hall =>
            cases hall with
            | cons h1 hall =>
              cases h1
              cases hall with
              | cons h2 hall =>
                refine ⟨rfl, ?_⟩
                dsimp only [tYes]
                refine (if_pos rfl).mpr ?_
                refine ⟨_, rfl, _, _, 0, .int e.1, rfl, rfl, s6.seq hsq, atI_nat (j := 0) rfl, _, rfl, _, _, 1, _, rfl, rfl, s6.seq hsq, atI_nat (j := 1) rfl, (by show 2 ≤ sizeLine; decide), fun t ht => ?_⟩
                refine j2 (.ref t) (entD e) _ (same_upd ht) (fun G2 s7 off => ?_) rfl
                have nt : t ≠ D := fun z => by
                  obtain ⟨l, hl⟩ := hDl
                  rw [z, hl] at ht
                  cases ht
                exact .tup (sqt (off _ _ nt upd_same)) (.cons (.int _) (.cons (dp_same s7 _ h2) .nil))
        · intro G3 ys s6 e6 h6
          rw [filter_some] at h6
          have hsh := ents_shaped hW.nu.ek
          refine ⟨_, _, dp_same s6 _ hdp, .lst (sql e6) h6, hsh, hsh, ?_⟩
          rw [eqv_self hsh]
          exact q _
end
theorem all_mk {l : PySem.W.OpenLaw} {w : World} {K : PySem.W.Frag} {h : Heap} {mg : Str → Option Value} {fa : Addr} (X : K.In h) (G : h.Ns mainGlobals mg) (hfa : mg "law" = some (.ref fa))
    {C_Proposer : Addr} {f_majority : Addr} {od_majority an_majority : Option Addr} {sl_majority : Array (Option Value)} {oc_majority kV_majority dc_majority pm_majority cd_majority ct_majority : Value} {f_next_ballot : Addr} {od_next_ballot an_next_ballot : Option Addr} {sl_next_ballot : Array (Option Value)} {oc_next_ballot kV_next_ballot dc_next_ballot pm_next_ballot cd_next_ballot ct_next_ballot : Value} {f_value_to_propose : Addr} {od_value_to_propose an_value_to_propose : Option Addr} {sl_value_to_propose : Array (Option Value)} {oc_value_to_propose kV_value_to_propose dc_value_to_propose pm_value_to_propose cd_value_to_propose ct_value_to_propose : Value} {f_Proposer___init__ : Addr} {od_Proposer___init__ an_Proposer___init__ : Option Addr} {sl_Proposer___init__ : Array (Option Value)} {oc_Proposer___init__ kV_Proposer___init__ dc_Proposer___init__ pm_Proposer___init__ cd_Proposer___init__ ct_Proposer___init__ : Value} {f_Proposer_saw : Addr} {od_Proposer_saw an_Proposer_saw : Option Addr} {sl_Proposer_saw : Array (Option Value)} {oc_Proposer_saw kV_Proposer_saw dc_Proposer_saw pm_Proposer_saw cd_Proposer_saw ct_Proposer_saw : Value} {f_Proposer_begin : Addr} {od_Proposer_begin an_Proposer_begin : Option Addr} {sl_Proposer_begin : Array (Option Value)} {oc_Proposer_begin kV_Proposer_begin dc_Proposer_begin pm_Proposer_begin cd_Proposer_begin ct_Proposer_begin : Value} {f_Proposer_hear_promise : Addr} {od_Proposer_hear_promise an_Proposer_hear_promise : Option Addr} {sl_Proposer_hear_promise : Array (Option Value)} {oc_Proposer_hear_promise kV_Proposer_hear_promise dc_Proposer_hear_promise pm_Proposer_hear_promise cd_Proposer_hear_promise ct_Proposer_hear_promise : Value} {f_Proposer__open_accepted : Addr} {od_Proposer__open_accepted an_Proposer__open_accepted : Option Addr} {sl_Proposer__open_accepted : Array (Option Value)} {oc_Proposer__open_accepted kV_Proposer__open_accepted dc_Proposer__open_accepted pm_Proposer__open_accepted cd_Proposer__open_accepted ct_Proposer__open_accepted : Value} {f_Proposer__promised_pairs : Addr} {od_Proposer__promised_pairs an_Proposer__promised_pairs : Option Addr} {sl_Proposer__promised_pairs : Array (Option Value)} {oc_Proposer__promised_pairs kV_Proposer__promised_pairs dc_Proposer__promised_pairs pm_Proposer__promised_pairs cd_Proposer__promised_pairs ct_Proposer__promised_pairs : Value} {f_Proposer_propose : Addr} {od_Proposer_propose an_Proposer_propose : Option Addr} {sl_Proposer_propose : Array (Option Value)} {oc_Proposer_propose kV_Proposer_propose dc_Proposer_propose pm_Proposer_propose cd_Proposer_propose ct_Proposer_propose : Value} {f_Proposer_hear_accepted : Addr} {od_Proposer_hear_accepted an_Proposer_hear_accepted : Option Addr} {sl_Proposer_hear_accepted : Array (Option Value)} {oc_Proposer_hear_accepted kV_Proposer_hear_accepted dc_Proposer_hear_accepted pm_Proposer_hear_accepted cd_Proposer_hear_accepted ct_Proposer_hear_accepted : Value} {f_Proposer_open_proposals : Addr} {od_Proposer_open_proposals an_Proposer_open_proposals : Option Addr} {sl_Proposer_open_proposals : Array (Option Value)} {oc_Proposer_open_proposals kV_Proposer_open_proposals dc_Proposer_open_proposals pm_Proposer_open_proposals cd_Proposer_open_proposals ct_Proposer_open_proposals : Value} {f_Proposer_stop : Addr} {od_Proposer_stop an_Proposer_stop : Option Addr} {sl_Proposer_stop : Array (Option Value)} {oc_Proposer_stop kV_Proposer_stop dc_Proposer_stop pm_Proposer_stop cd_Proposer_stop ct_Proposer_stop : Value} {f_Proposer__forget_proposals : Addr} {od_Proposer__forget_proposals an_Proposer__forget_proposals : Option Addr} {sl_Proposer__forget_proposals : Array (Option Value)} {oc_Proposer__forget_proposals kV_Proposer__forget_proposals dc_Proposer__forget_proposals pm_Proposer__forget_proposals cd_Proposer__forget_proposals ct_Proposer__forget_proposals : Value} {f__law_draws : Addr} {od__law_draws an__law_draws : Option Addr} {sl__law_draws : Array (Option Value)} {oc__law_draws kV__law_draws dc__law_draws pm__law_draws cd__law_draws ct__law_draws : Value} {f__law_value : Addr} {od__law_value an__law_value : Option Addr} {sl__law_value : Array (Option Value)} {oc__law_value kV__law_value dc__law_value pm__law_value cd__law_value ct__law_value : Value} {f__law_promise : Addr} {od__law_promise an__law_promise : Option Addr} {sl__law_promise : Array (Option Value)} {oc__law_promise kV__law_promise dc__law_promise pm__law_promise cd__law_promise ct__law_promise : Value} {f__law_accepted : Addr} {od__law_accepted an__law_accepted : Option Addr} {sl__law_accepted : Array (Option Value)} {oc__law_accepted kV__law_accepted dc__law_accepted pm__law_accepted cd__law_accepted ct__law_accepted : Value} {f__law_begin : Addr} {od__law_begin an__law_begin : Option Addr} {sl__law_begin : Array (Option Value)} {oc__law_begin kV__law_begin dc__law_begin pm__law_begin cd__law_begin ct__law_begin : Value} {f__law_saw : Addr} {od__law_saw an__law_saw : Option Addr} {sl__law_saw : Array (Option Value)} {oc__law_saw kV__law_saw dc__law_saw pm__law_saw cd__law_saw ct__law_saw : Value} {f__law_other : Addr} {od__law_other an__law_other : Option Addr} {sl__law_other : Array (Option Value)} {oc__law_other kV__law_other dc__law_other pm__law_other cd__law_other ct__law_other : Value} {f__law_deed : Addr} {od__law_deed an__law_deed : Option Addr} {sl__law_deed : Array (Option Value)} {oc__law_deed kV__law_deed dc__law_deed pm__law_deed cd__law_deed ct__law_deed : Value} {f_law : Addr} {od_law an_law : Option Addr} {sl_law : Array (Option Value)} {oc_law kV_law dc_law pm_law cd_law ct_law : Value} {ca_NOTHING : Addr} {cd0_NOTHING : Option Addr} {cn_NOTHING : Nat} {cs_NOTHING : Array (Option Value)} {cv_NOTHING : List Value} {t_IDLE : Tok} {t_PREPARING : Tok} {t_LEADING : Tok}
    (g_majority : PySem.W.nsIn K mainGlobals "majority" = some (some (.ref f_majority)))
    (l_majority : K.lookup f_majority = some ⟨oc_majority, od_majority, .func (PySem.W.fnOf "majority" "majority" (defArgs s_majority) (defBody s_majority) (defScope s_majority) .none kV_majority dc_majority pm_majority an_majority cd_majority ct_majority), sl_majority⟩)
    (c_majority : PySem.W.codeIn K cd_majority "majority" = true)
    (k_majority : PySem.W.keepIn K (.ref f_majority) = true)
    (g_next_ballot : PySem.W.nsIn K mainGlobals "next_ballot" = some (some (.ref f_next_ballot)))
    (l_next_ballot : K.lookup f_next_ballot = some ⟨oc_next_ballot, od_next_ballot, .func (PySem.W.fnOf "next_ballot" "next_ballot" (defArgs s_next_ballot) (defBody s_next_ballot) (defScope s_next_ballot) .none kV_next_ballot dc_next_ballot pm_next_ballot an_next_ballot cd_next_ballot ct_next_ballot), sl_next_ballot⟩)
    (c_next_ballot : PySem.W.codeIn K cd_next_ballot "next_ballot" = true)
    (k_next_ballot : PySem.W.keepIn K (.ref f_next_ballot) = true)
    (g_value_to_propose : PySem.W.nsIn K mainGlobals "value_to_propose" = some (some (.ref f_value_to_propose)))
    (l_value_to_propose : K.lookup f_value_to_propose = some ⟨oc_value_to_propose, od_value_to_propose, .func (PySem.W.fnOf "value_to_propose" "value_to_propose" (defArgs s_value_to_propose) (defBody s_value_to_propose) (defScope s_value_to_propose) .none kV_value_to_propose dc_value_to_propose pm_value_to_propose an_value_to_propose cd_value_to_propose ct_value_to_propose), sl_value_to_propose⟩)
    (c_value_to_propose : PySem.W.codeIn K cd_value_to_propose "value_to_propose" = true)
    (k_value_to_propose : PySem.W.keepIn K (.ref f_value_to_propose) = true)
    (gc_Proposer : PySem.W.nsIn K mainGlobals "Proposer" = some (some (.ref C_Proposer)))
    (m_Proposer___init__ : PySem.W.findIn K (.ref C_Proposer) "__init__" = some (some (.ref f_Proposer___init__)))
    (i_Proposer___init__ : PySem.W.isFn K (.ref f_Proposer___init__) = true)
    (l_Proposer___init__ : K.lookup f_Proposer___init__ = some ⟨oc_Proposer___init__, od_Proposer___init__, .func (PySem.W.fnOf "__init__" "Proposer.__init__" (defArgs s_Proposer___init__) (defBody s_Proposer___init__) (defScope s_Proposer___init__) .none kV_Proposer___init__ dc_Proposer___init__ pm_Proposer___init__ an_Proposer___init__ cd_Proposer___init__ ct_Proposer___init__), sl_Proposer___init__⟩)
    (c_Proposer___init__ : PySem.W.codeIn K cd_Proposer___init__ "Proposer.__init__" = true)
    (k_Proposer___init__ : PySem.W.keepIn K (.ref f_Proposer___init__) = true)
    (m_Proposer_saw : PySem.W.findIn K (.ref C_Proposer) "saw" = some (some (.ref f_Proposer_saw)))
    (i_Proposer_saw : PySem.W.isFn K (.ref f_Proposer_saw) = true)
    (l_Proposer_saw : K.lookup f_Proposer_saw = some ⟨oc_Proposer_saw, od_Proposer_saw, .func (PySem.W.fnOf "saw" "Proposer.saw" (defArgs s_Proposer_saw) (defBody s_Proposer_saw) (defScope s_Proposer_saw) .none kV_Proposer_saw dc_Proposer_saw pm_Proposer_saw an_Proposer_saw cd_Proposer_saw ct_Proposer_saw), sl_Proposer_saw⟩)
    (c_Proposer_saw : PySem.W.codeIn K cd_Proposer_saw "Proposer.saw" = true)
    (k_Proposer_saw : PySem.W.keepIn K (.ref f_Proposer_saw) = true)
    (m_Proposer_begin : PySem.W.findIn K (.ref C_Proposer) "begin" = some (some (.ref f_Proposer_begin)))
    (i_Proposer_begin : PySem.W.isFn K (.ref f_Proposer_begin) = true)
    (l_Proposer_begin : K.lookup f_Proposer_begin = some ⟨oc_Proposer_begin, od_Proposer_begin, .func (PySem.W.fnOf "begin" "Proposer.begin" (defArgs s_Proposer_begin) (defBody s_Proposer_begin) (defScope s_Proposer_begin) .none kV_Proposer_begin dc_Proposer_begin pm_Proposer_begin an_Proposer_begin cd_Proposer_begin ct_Proposer_begin), sl_Proposer_begin⟩)
    (c_Proposer_begin : PySem.W.codeIn K cd_Proposer_begin "Proposer.begin" = true)
    (k_Proposer_begin : PySem.W.keepIn K (.ref f_Proposer_begin) = true)
    (m_Proposer_hear_promise : PySem.W.findIn K (.ref C_Proposer) "hear_promise" = some (some (.ref f_Proposer_hear_promise)))
    (i_Proposer_hear_promise : PySem.W.isFn K (.ref f_Proposer_hear_promise) = true)
    (l_Proposer_hear_promise : K.lookup f_Proposer_hear_promise = some ⟨oc_Proposer_hear_promise, od_Proposer_hear_promise, .func (PySem.W.fnOf "hear_promise" "Proposer.hear_promise" (defArgs s_Proposer_hear_promise) (defBody s_Proposer_hear_promise) (defScope s_Proposer_hear_promise) .none kV_Proposer_hear_promise dc_Proposer_hear_promise pm_Proposer_hear_promise an_Proposer_hear_promise cd_Proposer_hear_promise ct_Proposer_hear_promise), sl_Proposer_hear_promise⟩)
    (c_Proposer_hear_promise : PySem.W.codeIn K cd_Proposer_hear_promise "Proposer.hear_promise" = true)
    (k_Proposer_hear_promise : PySem.W.keepIn K (.ref f_Proposer_hear_promise) = true)
    (m_Proposer__open_accepted : PySem.W.findIn K (.ref C_Proposer) "_open_accepted" = some (some (.ref f_Proposer__open_accepted)))
    (i_Proposer__open_accepted : PySem.W.isFn K (.ref f_Proposer__open_accepted) = true)
    (l_Proposer__open_accepted : K.lookup f_Proposer__open_accepted = some ⟨oc_Proposer__open_accepted, od_Proposer__open_accepted, .func (PySem.W.fnOf "_open_accepted" "Proposer._open_accepted" (defArgs s_Proposer__open_accepted) (defBody s_Proposer__open_accepted) (defScope s_Proposer__open_accepted) .none kV_Proposer__open_accepted dc_Proposer__open_accepted pm_Proposer__open_accepted an_Proposer__open_accepted cd_Proposer__open_accepted ct_Proposer__open_accepted), sl_Proposer__open_accepted⟩)
    (c_Proposer__open_accepted : PySem.W.codeIn K cd_Proposer__open_accepted "Proposer._open_accepted" = true)
    (k_Proposer__open_accepted : PySem.W.keepIn K (.ref f_Proposer__open_accepted) = true)
    (m_Proposer__promised_pairs : PySem.W.findIn K (.ref C_Proposer) "_promised_pairs" = some (some (.ref f_Proposer__promised_pairs)))
    (i_Proposer__promised_pairs : PySem.W.isFn K (.ref f_Proposer__promised_pairs) = true)
    (l_Proposer__promised_pairs : K.lookup f_Proposer__promised_pairs = some ⟨oc_Proposer__promised_pairs, od_Proposer__promised_pairs, .func (PySem.W.fnOf "_promised_pairs" "Proposer._promised_pairs" (defArgs s_Proposer__promised_pairs) (defBody s_Proposer__promised_pairs) (defScope s_Proposer__promised_pairs) .none kV_Proposer__promised_pairs dc_Proposer__promised_pairs pm_Proposer__promised_pairs an_Proposer__promised_pairs cd_Proposer__promised_pairs ct_Proposer__promised_pairs), sl_Proposer__promised_pairs⟩)
    (c_Proposer__promised_pairs : PySem.W.codeIn K cd_Proposer__promised_pairs "Proposer._promised_pairs" = true)
    (k_Proposer__promised_pairs : PySem.W.keepIn K (.ref f_Proposer__promised_pairs) = true)
    (m_Proposer_propose : PySem.W.findIn K (.ref C_Proposer) "propose" = some (some (.ref f_Proposer_propose)))
    (i_Proposer_propose : PySem.W.isFn K (.ref f_Proposer_propose) = true)
    (l_Proposer_propose : K.lookup f_Proposer_propose = some ⟨oc_Proposer_propose, od_Proposer_propose, .func (PySem.W.fnOf "propose" "Proposer.propose" (defArgs s_Proposer_propose) (defBody s_Proposer_propose) (defScope s_Proposer_propose) .none kV_Proposer_propose dc_Proposer_propose pm_Proposer_propose an_Proposer_propose cd_Proposer_propose ct_Proposer_propose), sl_Proposer_propose⟩)
    (c_Proposer_propose : PySem.W.codeIn K cd_Proposer_propose "Proposer.propose" = true)
    (k_Proposer_propose : PySem.W.keepIn K (.ref f_Proposer_propose) = true)
    (m_Proposer_hear_accepted : PySem.W.findIn K (.ref C_Proposer) "hear_accepted" = some (some (.ref f_Proposer_hear_accepted)))
    (i_Proposer_hear_accepted : PySem.W.isFn K (.ref f_Proposer_hear_accepted) = true)
    (l_Proposer_hear_accepted : K.lookup f_Proposer_hear_accepted = some ⟨oc_Proposer_hear_accepted, od_Proposer_hear_accepted, .func (PySem.W.fnOf "hear_accepted" "Proposer.hear_accepted" (defArgs s_Proposer_hear_accepted) (defBody s_Proposer_hear_accepted) (defScope s_Proposer_hear_accepted) .none kV_Proposer_hear_accepted dc_Proposer_hear_accepted pm_Proposer_hear_accepted an_Proposer_hear_accepted cd_Proposer_hear_accepted ct_Proposer_hear_accepted), sl_Proposer_hear_accepted⟩)
    (c_Proposer_hear_accepted : PySem.W.codeIn K cd_Proposer_hear_accepted "Proposer.hear_accepted" = true)
    (k_Proposer_hear_accepted : PySem.W.keepIn K (.ref f_Proposer_hear_accepted) = true)
    (m_Proposer_open_proposals : PySem.W.findIn K (.ref C_Proposer) "open_proposals" = some (some (.ref f_Proposer_open_proposals)))
    (i_Proposer_open_proposals : PySem.W.isFn K (.ref f_Proposer_open_proposals) = true)
    (l_Proposer_open_proposals : K.lookup f_Proposer_open_proposals = some ⟨oc_Proposer_open_proposals, od_Proposer_open_proposals, .func (PySem.W.fnOf "open_proposals" "Proposer.open_proposals" (defArgs s_Proposer_open_proposals) (defBody s_Proposer_open_proposals) (defScope s_Proposer_open_proposals) .none kV_Proposer_open_proposals dc_Proposer_open_proposals pm_Proposer_open_proposals an_Proposer_open_proposals cd_Proposer_open_proposals ct_Proposer_open_proposals), sl_Proposer_open_proposals⟩)
    (c_Proposer_open_proposals : PySem.W.codeIn K cd_Proposer_open_proposals "Proposer.open_proposals" = true)
    (k_Proposer_open_proposals : PySem.W.keepIn K (.ref f_Proposer_open_proposals) = true)
    (m_Proposer_stop : PySem.W.findIn K (.ref C_Proposer) "stop" = some (some (.ref f_Proposer_stop)))
    (i_Proposer_stop : PySem.W.isFn K (.ref f_Proposer_stop) = true)
    (l_Proposer_stop : K.lookup f_Proposer_stop = some ⟨oc_Proposer_stop, od_Proposer_stop, .func (PySem.W.fnOf "stop" "Proposer.stop" (defArgs s_Proposer_stop) (defBody s_Proposer_stop) (defScope s_Proposer_stop) .none kV_Proposer_stop dc_Proposer_stop pm_Proposer_stop an_Proposer_stop cd_Proposer_stop ct_Proposer_stop), sl_Proposer_stop⟩)
    (c_Proposer_stop : PySem.W.codeIn K cd_Proposer_stop "Proposer.stop" = true)
    (k_Proposer_stop : PySem.W.keepIn K (.ref f_Proposer_stop) = true)
    (m_Proposer__forget_proposals : PySem.W.findIn K (.ref C_Proposer) "_forget_proposals" = some (some (.ref f_Proposer__forget_proposals)))
    (i_Proposer__forget_proposals : PySem.W.isFn K (.ref f_Proposer__forget_proposals) = true)
    (l_Proposer__forget_proposals : K.lookup f_Proposer__forget_proposals = some ⟨oc_Proposer__forget_proposals, od_Proposer__forget_proposals, .func (PySem.W.fnOf "_forget_proposals" "Proposer._forget_proposals" (defArgs s_Proposer__forget_proposals) (defBody s_Proposer__forget_proposals) (defScope s_Proposer__forget_proposals) .none kV_Proposer__forget_proposals dc_Proposer__forget_proposals pm_Proposer__forget_proposals an_Proposer__forget_proposals cd_Proposer__forget_proposals ct_Proposer__forget_proposals), sl_Proposer__forget_proposals⟩)
    (c_Proposer__forget_proposals : PySem.W.codeIn K cd_Proposer__forget_proposals "Proposer._forget_proposals" = true)
    (k_Proposer__forget_proposals : PySem.W.keepIn K (.ref f_Proposer__forget_proposals) = true)
    (g__law_draws : PySem.W.nsIn K mainGlobals "_law_draws" = some (some (.ref f__law_draws)))
    (l__law_draws : K.lookup f__law_draws = some ⟨oc__law_draws, od__law_draws, .func (PySem.W.fnOf "_law_draws" "_law_draws" (defArgs s__law_draws) (defBody s__law_draws) (defScope s__law_draws) .none kV__law_draws dc__law_draws pm__law_draws an__law_draws cd__law_draws ct__law_draws), sl__law_draws⟩)
    (c__law_draws : PySem.W.codeIn K cd__law_draws "_law_draws" = true)
    (k__law_draws : PySem.W.keepIn K (.ref f__law_draws) = true)
    (g__law_value : PySem.W.nsIn K mainGlobals "_law_value" = some (some (.ref f__law_value)))
    (l__law_value : K.lookup f__law_value = some ⟨oc__law_value, od__law_value, .func (PySem.W.fnOf "_law_value" "_law_value" (defArgs s__law_value) (defBody s__law_value) (defScope s__law_value) .none kV__law_value dc__law_value pm__law_value an__law_value cd__law_value ct__law_value), sl__law_value⟩)
    (c__law_value : PySem.W.codeIn K cd__law_value "_law_value" = true)
    (k__law_value : PySem.W.keepIn K (.ref f__law_value) = true)
    (g__law_promise : PySem.W.nsIn K mainGlobals "_law_promise" = some (some (.ref f__law_promise)))
    (l__law_promise : K.lookup f__law_promise = some ⟨oc__law_promise, od__law_promise, .func (PySem.W.fnOf "_law_promise" "_law_promise" (defArgs s__law_promise) (defBody s__law_promise) (defScope s__law_promise) .none kV__law_promise dc__law_promise pm__law_promise an__law_promise cd__law_promise ct__law_promise), sl__law_promise⟩)
    (c__law_promise : PySem.W.codeIn K cd__law_promise "_law_promise" = true)
    (k__law_promise : PySem.W.keepIn K (.ref f__law_promise) = true)
    (g__law_accepted : PySem.W.nsIn K mainGlobals "_law_accepted" = some (some (.ref f__law_accepted)))
    (l__law_accepted : K.lookup f__law_accepted = some ⟨oc__law_accepted, od__law_accepted, .func (PySem.W.fnOf "_law_accepted" "_law_accepted" (defArgs s__law_accepted) (defBody s__law_accepted) (defScope s__law_accepted) .none kV__law_accepted dc__law_accepted pm__law_accepted an__law_accepted cd__law_accepted ct__law_accepted), sl__law_accepted⟩)
    (c__law_accepted : PySem.W.codeIn K cd__law_accepted "_law_accepted" = true)
    (k__law_accepted : PySem.W.keepIn K (.ref f__law_accepted) = true)
    (g__law_begin : PySem.W.nsIn K mainGlobals "_law_begin" = some (some (.ref f__law_begin)))
    (l__law_begin : K.lookup f__law_begin = some ⟨oc__law_begin, od__law_begin, .func (PySem.W.fnOf "_law_begin" "_law_begin" (defArgs s__law_begin) (defBody s__law_begin) (defScope s__law_begin) .none kV__law_begin dc__law_begin pm__law_begin an__law_begin cd__law_begin ct__law_begin), sl__law_begin⟩)
    (c__law_begin : PySem.W.codeIn K cd__law_begin "_law_begin" = true)
    (k__law_begin : PySem.W.keepIn K (.ref f__law_begin) = true)
    (g__law_saw : PySem.W.nsIn K mainGlobals "_law_saw" = some (some (.ref f__law_saw)))
    (l__law_saw : K.lookup f__law_saw = some ⟨oc__law_saw, od__law_saw, .func (PySem.W.fnOf "_law_saw" "_law_saw" (defArgs s__law_saw) (defBody s__law_saw) (defScope s__law_saw) .none kV__law_saw dc__law_saw pm__law_saw an__law_saw cd__law_saw ct__law_saw), sl__law_saw⟩)
    (c__law_saw : PySem.W.codeIn K cd__law_saw "_law_saw" = true)
    (k__law_saw : PySem.W.keepIn K (.ref f__law_saw) = true)
    (g__law_other : PySem.W.nsIn K mainGlobals "_law_other" = some (some (.ref f__law_other)))
    (l__law_other : K.lookup f__law_other = some ⟨oc__law_other, od__law_other, .func (PySem.W.fnOf "_law_other" "_law_other" (defArgs s__law_other) (defBody s__law_other) (defScope s__law_other) .none kV__law_other dc__law_other pm__law_other an__law_other cd__law_other ct__law_other), sl__law_other⟩)
    (c__law_other : PySem.W.codeIn K cd__law_other "_law_other" = true)
    (k__law_other : PySem.W.keepIn K (.ref f__law_other) = true)
    (g__law_deed : PySem.W.nsIn K mainGlobals "_law_deed" = some (some (.ref f__law_deed)))
    (l__law_deed : K.lookup f__law_deed = some ⟨oc__law_deed, od__law_deed, .func (PySem.W.fnOf "_law_deed" "_law_deed" (defArgs s__law_deed) (defBody s__law_deed) (defScope s__law_deed) .none kV__law_deed dc__law_deed pm__law_deed an__law_deed cd__law_deed ct__law_deed), sl__law_deed⟩)
    (c__law_deed : PySem.W.codeIn K cd__law_deed "_law_deed" = true)
    (k__law_deed : PySem.W.keepIn K (.ref f__law_deed) = true)
    (g_law : PySem.W.nsIn K mainGlobals "law" = some (some (.ref f_law)))
    (l_law : K.lookup f_law = some ⟨oc_law, od_law, .func (PySem.W.fnOf "law" "law" (defArgs s_law) (defBody s_law) (defScope s_law) .none kV_law dc_law pm_law an_law cd_law ct_law), sl_law⟩)
    (c_law : PySem.W.codeIn K cd_law "law" = true)
    (k_law : PySem.W.keepIn K (.ref f_law) = true)
    (pg_Proposer : PySem.W.plainGet K C_Proposer Str.empty = true)
    (hd_Proposer : PySem.W.hasDictIn K C_Proposer = true)
    (po_Proposer : PySem.W.plainOver K C_Proposer = true)
    (sa_Proposer : PySem.W.findIn K (.ref C_Proposer) "__setattr__" = some (some (.builtin "object.__setattr__")))
    (mk_Proposer : PySem.W.makesIn K C_Proposer = true)
    (kc_Proposer : PySem.W.keepIn K (.ref C_Proposer) = true)
    (na_Proposer_ballot : PySem.W.findIn K (.ref C_Proposer) "ballot" = some none)
    (na_Proposer_state : PySem.W.findIn K (.ref C_Proposer) "state" = some none)
    (na_Proposer__index : PySem.W.findIn K (.ref C_Proposer) "_index" = some none)
    (na_Proposer__count : PySem.W.findIn K (.ref C_Proposer) "_count" = some none)
    (na_Proposer__seen : PySem.W.findIn K (.ref C_Proposer) "_seen" = some none)
    (na_Proposer__next_slot : PySem.W.findIn K (.ref C_Proposer) "_next_slot" = some none)
    (na_Proposer__promises : PySem.W.findIn K (.ref C_Proposer) "_promises" = some none)
    (na_Proposer__proposals : PySem.W.findIn K (.ref C_Proposer) "_proposals" = some none)
    (na_Proposer__voters : PySem.W.findIn K (.ref C_Proposer) "_voters" = some none)
    (c_NOTHING : PySem.W.nsIn K mainGlobals "NOTHING" = some (some (.ref ca_NOTHING)))
    (q_NOTHING : K.lookup ca_NOTHING = some ⟨.type "tuple", cd0_NOTHING, .seq cv_NOTHING.toArray cn_NOTHING, cs_NOTHING⟩)
    (v_NOTHING : Vals [(.str "nothing")] cv_NOTHING)
    (c_IDLE : PySem.W.nsIn K mainGlobals "IDLE" = some (some (.str "idle" t_IDLE)))
    (c_PREPARING : PySem.W.nsIn K mainGlobals "PREPARING" = some (some (.str "preparing" t_PREPARING)))
    (c_LEADING : PySem.W.nsIn K mainGlobals "LEADING" = some (some (.str "leading" t_LEADING)))
    (n_max : PySem.W.nsIn K mainGlobals "max" = some none)
    (n_sorted : PySem.W.nsIn K mainGlobals "sorted" = some none)
    (n_tuple : PySem.W.nsIn K mainGlobals "tuple" = some none)
    (n_len : PySem.W.nsIn K mainGlobals "len" = some none)
    (n_range : PySem.W.nsIn K mainGlobals "range" = some none)
    (n_min : PySem.W.nsIn K mainGlobals "min" = some none)
    (n_abs : PySem.W.nsIn K mainGlobals "abs" = some none)
    (n_int : PySem.W.nsIn K mainGlobals "int" = some none)
    (n_isinstance : PySem.W.nsIn K mainGlobals "isinstance" = some none)
    (n_bool : PySem.W.nsIn K mainGlobals "bool" = some none)
    (n_list : PySem.W.nsIn K mainGlobals "list" = some none) :
    ∃ fd : FuncData, (∀ (s : Shared) (v : Value), BindsTo s fd ⟨[v], []⟩ [("script", v)]) ∧ ∀ base : Heap, K.In base → base.Ns mainGlobals mg → FnOk l.prog w K mg base CX0 5 fa fd ["script"] (sp_law K) := by
  have e : fa = f_law := by
    have z := hfa.symm.trans (PySem.W.mg_of X G g_law)
    injection z with z
    injection z
  rw [e]
  let T : TX K mg := ⟨C_Proposer, f_majority, (PySem.W.fnOf "majority" "majority" (defArgs s_majority) (defBody s_majority) (defScope s_majority) .none kV_majority dc_majority pm_majority an_majority cd_majority ct_majority), (fun_mk (st := s_majority) l_majority c_majority k_majority), ((fun_mk (st := s_majority) l_majority c_majority k_majority).binds (ps := ["count"]) fun _ _ _ _ _ _ us hl => match us, hl with | [_], _ => rfl), (PySem.W.mg_of X G g_majority), f_next_ballot, (PySem.W.fnOf "next_ballot" "next_ballot" (defArgs s_next_ballot) (defBody s_next_ballot) (defScope s_next_ballot) .none kV_next_ballot dc_next_ballot pm_next_ballot an_next_ballot cd_next_ballot ct_next_ballot), (fun_mk (st := s_next_ballot) l_next_ballot c_next_ballot k_next_ballot), ((fun_mk (st := s_next_ballot) l_next_ballot c_next_ballot k_next_ballot).binds (ps := ["above", "index", "count"]) fun _ _ _ _ _ _ us hl => match us, hl with | [_, _, _], _ => rfl), (PySem.W.mg_of X G g_next_ballot), f_value_to_propose, (PySem.W.fnOf "value_to_propose" "value_to_propose" (defArgs s_value_to_propose) (defBody s_value_to_propose) (defScope s_value_to_propose) .none kV_value_to_propose dc_value_to_propose pm_value_to_propose an_value_to_propose cd_value_to_propose ct_value_to_propose), (fun_mk (st := s_value_to_propose) l_value_to_propose c_value_to_propose k_value_to_propose), ((fun_mk (st := s_value_to_propose) l_value_to_propose c_value_to_propose k_value_to_propose).binds (ps := ["pairs"]) fun _ _ _ _ _ _ us hl => match us, hl with | [_], _ => rfl), (PySem.W.mg_of X G g_value_to_propose), f_Proposer___init__, (PySem.W.fnOf "__init__" "Proposer.__init__" (defArgs s_Proposer___init__) (defBody s_Proposer___init__) (defScope s_Proposer___init__) .none kV_Proposer___init__ dc_Proposer___init__ pm_Proposer___init__ an_Proposer___init__ cd_Proposer___init__ ct_Proposer___init__), (fun_mk (st := s_Proposer___init__) l_Proposer___init__ c_Proposer___init__ k_Proposer___init__), ((fun_mk (st := s_Proposer___init__) l_Proposer___init__ c_Proposer___init__ k_Proposer___init__).binds (ps := ["self", "index", "count"]) fun _ _ _ _ _ _ us hl => match us, hl with | [_, _, _], _ => rfl), f_Proposer_saw, (PySem.W.fnOf "saw" "Proposer.saw" (defArgs s_Proposer_saw) (defBody s_Proposer_saw) (defScope s_Proposer_saw) .none kV_Proposer_saw dc_Proposer_saw pm_Proposer_saw an_Proposer_saw cd_Proposer_saw ct_Proposer_saw), (fun_mk (st := s_Proposer_saw) l_Proposer_saw c_Proposer_saw k_Proposer_saw), ((fun_mk (st := s_Proposer_saw) l_Proposer_saw c_Proposer_saw k_Proposer_saw).binds (ps := ["self", "ballot"]) fun _ _ _ _ _ _ us hl => match us, hl with | [_, _], _ => rfl), ⟨m_Proposer_saw, i_Proposer_saw, k_Proposer_saw⟩, f_Proposer_begin, (PySem.W.fnOf "begin" "Proposer.begin" (defArgs s_Proposer_begin) (defBody s_Proposer_begin) (defScope s_Proposer_begin) .none kV_Proposer_begin dc_Proposer_begin pm_Proposer_begin an_Proposer_begin cd_Proposer_begin ct_Proposer_begin), (fun_mk (st := s_Proposer_begin) l_Proposer_begin c_Proposer_begin k_Proposer_begin), ((fun_mk (st := s_Proposer_begin) l_Proposer_begin c_Proposer_begin k_Proposer_begin).binds (ps := ["self", "first"]) fun _ _ _ _ _ _ us hl => match us, hl with | [_, _], _ => rfl), ⟨m_Proposer_begin, i_Proposer_begin, k_Proposer_begin⟩, f_Proposer_hear_promise, (PySem.W.fnOf "hear_promise" "Proposer.hear_promise" (defArgs s_Proposer_hear_promise) (defBody s_Proposer_hear_promise) (defScope s_Proposer_hear_promise) .none kV_Proposer_hear_promise dc_Proposer_hear_promise pm_Proposer_hear_promise an_Proposer_hear_promise cd_Proposer_hear_promise ct_Proposer_hear_promise), (fun_mk (st := s_Proposer_hear_promise) l_Proposer_hear_promise c_Proposer_hear_promise k_Proposer_hear_promise), ((fun_mk (st := s_Proposer_hear_promise) l_Proposer_hear_promise c_Proposer_hear_promise k_Proposer_hear_promise).binds (ps := ["self", "index", "ballot", "base", "rows"]) fun _ _ _ _ _ _ us hl => match us, hl with | [_, _, _, _, _], _ => rfl), ⟨m_Proposer_hear_promise, i_Proposer_hear_promise, k_Proposer_hear_promise⟩, f_Proposer__open_accepted, (PySem.W.fnOf "_open_accepted" "Proposer._open_accepted" (defArgs s_Proposer__open_accepted) (defBody s_Proposer__open_accepted) (defScope s_Proposer__open_accepted) .none kV_Proposer__open_accepted dc_Proposer__open_accepted pm_Proposer__open_accepted an_Proposer__open_accepted cd_Proposer__open_accepted ct_Proposer__open_accepted), (fun_mk (st := s_Proposer__open_accepted) l_Proposer__open_accepted c_Proposer__open_accepted k_Proposer__open_accepted), ((fun_mk (st := s_Proposer__open_accepted) l_Proposer__open_accepted c_Proposer__open_accepted k_Proposer__open_accepted).binds (ps := ["self"]) fun _ _ _ _ _ _ us hl => match us, hl with | [_], _ => rfl), ⟨m_Proposer__open_accepted, i_Proposer__open_accepted, k_Proposer__open_accepted⟩, f_Proposer__promised_pairs, (PySem.W.fnOf "_promised_pairs" "Proposer._promised_pairs" (defArgs s_Proposer__promised_pairs) (defBody s_Proposer__promised_pairs) (defScope s_Proposer__promised_pairs) .none kV_Proposer__promised_pairs dc_Proposer__promised_pairs pm_Proposer__promised_pairs an_Proposer__promised_pairs cd_Proposer__promised_pairs ct_Proposer__promised_pairs), (fun_mk (st := s_Proposer__promised_pairs) l_Proposer__promised_pairs c_Proposer__promised_pairs k_Proposer__promised_pairs), ((fun_mk (st := s_Proposer__promised_pairs) l_Proposer__promised_pairs c_Proposer__promised_pairs k_Proposer__promised_pairs).binds (ps := ["self"]) fun _ _ _ _ _ _ us hl => match us, hl with | [_], _ => rfl), ⟨m_Proposer__promised_pairs, i_Proposer__promised_pairs, k_Proposer__promised_pairs⟩, f_Proposer_propose, (PySem.W.fnOf "propose" "Proposer.propose" (defArgs s_Proposer_propose) (defBody s_Proposer_propose) (defScope s_Proposer_propose) .none kV_Proposer_propose dc_Proposer_propose pm_Proposer_propose an_Proposer_propose cd_Proposer_propose ct_Proposer_propose), (fun_mk (st := s_Proposer_propose) l_Proposer_propose c_Proposer_propose k_Proposer_propose), ((fun_mk (st := s_Proposer_propose) l_Proposer_propose c_Proposer_propose k_Proposer_propose).binds (ps := ["self", "value"]) fun _ _ _ _ _ _ us hl => match us, hl with | [_, _], _ => rfl), ⟨m_Proposer_propose, i_Proposer_propose, k_Proposer_propose⟩, f_Proposer_hear_accepted, (PySem.W.fnOf "hear_accepted" "Proposer.hear_accepted" (defArgs s_Proposer_hear_accepted) (defBody s_Proposer_hear_accepted) (defScope s_Proposer_hear_accepted) .none kV_Proposer_hear_accepted dc_Proposer_hear_accepted pm_Proposer_hear_accepted an_Proposer_hear_accepted cd_Proposer_hear_accepted ct_Proposer_hear_accepted), (fun_mk (st := s_Proposer_hear_accepted) l_Proposer_hear_accepted c_Proposer_hear_accepted k_Proposer_hear_accepted), ((fun_mk (st := s_Proposer_hear_accepted) l_Proposer_hear_accepted c_Proposer_hear_accepted k_Proposer_hear_accepted).binds (ps := ["self", "index", "ballot", "slot"]) fun _ _ _ _ _ _ us hl => match us, hl with | [_, _, _, _], _ => rfl), ⟨m_Proposer_hear_accepted, i_Proposer_hear_accepted, k_Proposer_hear_accepted⟩, f_Proposer_open_proposals, (PySem.W.fnOf "open_proposals" "Proposer.open_proposals" (defArgs s_Proposer_open_proposals) (defBody s_Proposer_open_proposals) (defScope s_Proposer_open_proposals) .none kV_Proposer_open_proposals dc_Proposer_open_proposals pm_Proposer_open_proposals an_Proposer_open_proposals cd_Proposer_open_proposals ct_Proposer_open_proposals), (fun_mk (st := s_Proposer_open_proposals) l_Proposer_open_proposals c_Proposer_open_proposals k_Proposer_open_proposals), ((fun_mk (st := s_Proposer_open_proposals) l_Proposer_open_proposals c_Proposer_open_proposals k_Proposer_open_proposals).binds (ps := ["self"]) fun _ _ _ _ _ _ us hl => match us, hl with | [_], _ => rfl), ⟨m_Proposer_open_proposals, i_Proposer_open_proposals, k_Proposer_open_proposals⟩, f_Proposer_stop, (PySem.W.fnOf "stop" "Proposer.stop" (defArgs s_Proposer_stop) (defBody s_Proposer_stop) (defScope s_Proposer_stop) .none kV_Proposer_stop dc_Proposer_stop pm_Proposer_stop an_Proposer_stop cd_Proposer_stop ct_Proposer_stop), (fun_mk (st := s_Proposer_stop) l_Proposer_stop c_Proposer_stop k_Proposer_stop), ((fun_mk (st := s_Proposer_stop) l_Proposer_stop c_Proposer_stop k_Proposer_stop).binds (ps := ["self"]) fun _ _ _ _ _ _ us hl => match us, hl with | [_], _ => rfl), ⟨m_Proposer_stop, i_Proposer_stop, k_Proposer_stop⟩, f_Proposer__forget_proposals, (PySem.W.fnOf "_forget_proposals" "Proposer._forget_proposals" (defArgs s_Proposer__forget_proposals) (defBody s_Proposer__forget_proposals) (defScope s_Proposer__forget_proposals) .none kV_Proposer__forget_proposals dc_Proposer__forget_proposals pm_Proposer__forget_proposals an_Proposer__forget_proposals cd_Proposer__forget_proposals ct_Proposer__forget_proposals), (fun_mk (st := s_Proposer__forget_proposals) l_Proposer__forget_proposals c_Proposer__forget_proposals k_Proposer__forget_proposals), ((fun_mk (st := s_Proposer__forget_proposals) l_Proposer__forget_proposals c_Proposer__forget_proposals k_Proposer__forget_proposals).binds (ps := ["self"]) fun _ _ _ _ _ _ us hl => match us, hl with | [_], _ => rfl), ⟨m_Proposer__forget_proposals, i_Proposer__forget_proposals, k_Proposer__forget_proposals⟩, f__law_draws, (PySem.W.fnOf "_law_draws" "_law_draws" (defArgs s__law_draws) (defBody s__law_draws) (defScope s__law_draws) .none kV__law_draws dc__law_draws pm__law_draws an__law_draws cd__law_draws ct__law_draws), (fun_mk (st := s__law_draws) l__law_draws c__law_draws k__law_draws), ((fun_mk (st := s__law_draws) l__law_draws c__law_draws k__law_draws).binds (ps := ["script"]) fun _ _ _ _ _ _ us hl => match us, hl with | [_], _ => rfl), (PySem.W.mg_of X G g__law_draws), f__law_value, (PySem.W.fnOf "_law_value" "_law_value" (defArgs s__law_value) (defBody s__law_value) (defScope s__law_value) .none kV__law_value dc__law_value pm__law_value an__law_value cd__law_value ct__law_value), (fun_mk (st := s__law_value) l__law_value c__law_value k__law_value), ((fun_mk (st := s__law_value) l__law_value c__law_value k__law_value).binds (ps := ["promises", "slot"]) fun _ _ _ _ _ _ us hl => match us, hl with | [_, _], _ => rfl), (PySem.W.mg_of X G g__law_value), f__law_promise, (PySem.W.fnOf "_law_promise" "_law_promise" (defArgs s__law_promise) (defBody s__law_promise) (defScope s__law_promise) .none kV__law_promise dc__law_promise pm__law_promise an__law_promise cd__law_promise ct__law_promise), (fun_mk (st := s__law_promise) l__law_promise c__law_promise k__law_promise), ((fun_mk (st := s__law_promise) l__law_promise c__law_promise k__law_promise).binds (ps := ["model", "index", "ballot", "base", "rows"]) fun _ _ _ _ _ _ us hl => match us, hl with | [_, _, _, _, _], _ => rfl), (PySem.W.mg_of X G g__law_promise), f__law_accepted, (PySem.W.fnOf "_law_accepted" "_law_accepted" (defArgs s__law_accepted) (defBody s__law_accepted) (defScope s__law_accepted) .none kV__law_accepted dc__law_accepted pm__law_accepted an__law_accepted cd__law_accepted ct__law_accepted), (fun_mk (st := s__law_accepted) l__law_accepted c__law_accepted k__law_accepted), ((fun_mk (st := s__law_accepted) l__law_accepted c__law_accepted k__law_accepted).binds (ps := ["model", "index", "ballot", "slot"]) fun _ _ _ _ _ _ us hl => match us, hl with | [_, _, _, _], _ => rfl), (PySem.W.mg_of X G g__law_accepted), f__law_begin, (PySem.W.fnOf "_law_begin" "_law_begin" (defArgs s__law_begin) (defBody s__law_begin) (defScope s__law_begin) .none kV__law_begin dc__law_begin pm__law_begin an__law_begin cd__law_begin ct__law_begin), (fun_mk (st := s__law_begin) l__law_begin c__law_begin k__law_begin), ((fun_mk (st := s__law_begin) l__law_begin c__law_begin k__law_begin).binds (ps := ["model", "first"]) fun _ _ _ _ _ _ us hl => match us, hl with | [_, _], _ => rfl), (PySem.W.mg_of X G g__law_begin), f__law_saw, (PySem.W.fnOf "_law_saw" "_law_saw" (defArgs s__law_saw) (defBody s__law_saw) (defScope s__law_saw) .none kV__law_saw dc__law_saw pm__law_saw an__law_saw cd__law_saw ct__law_saw), (fun_mk (st := s__law_saw) l__law_saw c__law_saw k__law_saw), ((fun_mk (st := s__law_saw) l__law_saw c__law_saw k__law_saw).binds (ps := ["model", "ballot"]) fun _ _ _ _ _ _ us hl => match us, hl with | [_, _], _ => rfl), (PySem.W.mg_of X G g__law_saw), f__law_other, (PySem.W.fnOf "_law_other" "_law_other" (defArgs s__law_other) (defBody s__law_other) (defScope s__law_other) .none kV__law_other dc__law_other pm__law_other an__law_other cd__law_other ct__law_other), (fun_mk (st := s__law_other) l__law_other c__law_other k__law_other), ((fun_mk (st := s__law_other) l__law_other c__law_other k__law_other).binds (ps := ["proposer", "model", "kind", "slot"]) fun _ _ _ _ _ _ us hl => match us, hl with | [_, _, _, _], _ => rfl), (PySem.W.mg_of X G g__law_other), f__law_deed, (PySem.W.fnOf "_law_deed" "_law_deed" (defArgs s__law_deed) (defBody s__law_deed) (defScope s__law_deed) .none kV__law_deed dc__law_deed pm__law_deed an__law_deed cd__law_deed ct__law_deed), (fun_mk (st := s__law_deed) l__law_deed c__law_deed k__law_deed), ((fun_mk (st := s__law_deed) l__law_deed c__law_deed k__law_deed).binds (ps := ["proposer", "model", "one", "other", "third"]) fun _ _ _ _ _ _ us hl => match us, hl with | [_, _, _, _, _], _ => rfl), (PySem.W.mg_of X G g__law_deed), f_law, (PySem.W.fnOf "law" "law" (defArgs s_law) (defBody s_law) (defScope s_law) .none kV_law dc_law pm_law an_law cd_law ct_law), (fun_mk (st := s_law) l_law c_law k_law), ((fun_mk (st := s_law) l_law c_law k_law).binds (ps := ["script"]) fun _ _ _ _ _ _ us hl => match us, hl with | [_], _ => rfl), (PySem.W.mg_of X G g_law), ⟨pg_Proposer, hd_Proposer, po_Proposer, sa_Proposer⟩, (PySem.W.mg_of X G gc_Proposer), ⟨mk_Proposer, m_Proposer___init__, i_Proposer___init__, kc_Proposer⟩, na_Proposer_ballot, na_Proposer_state, na_Proposer__index, na_Proposer__count, na_Proposer__seen, na_Proposer__next_slot, na_Proposer__promises, na_Proposer__proposals, na_Proposer__voters, ca_NOTHING, (PySem.W.mg_of X G c_NOTHING), (fun H => Or.inr ⟨_, cv_NOTHING.toArray, cn_NOTHING, q_NOTHING, rfl, rfl, (by rw [List.size_toArray, ← (Vals.length v_NOTHING)]; exact (by decide : 1 ≤ sizeLine)), (by simpa using v_NOTHING)⟩), t_IDLE, (PySem.W.mg_of X G c_IDLE), t_PREPARING, (PySem.W.mg_of X G c_PREPARING), t_LEADING, (PySem.W.mg_of X G c_LEADING), (PySem.W.mg_none_of X G n_max), (PySem.W.mg_none_of X G n_sorted), (PySem.W.mg_none_of X G n_tuple), (PySem.W.mg_none_of X G n_len), (PySem.W.mg_none_of X G n_range), (PySem.W.mg_none_of X G n_min), (PySem.W.mg_none_of X G n_abs), (PySem.W.mg_none_of X G n_int), (PySem.W.mg_none_of X G n_isinstance), (PySem.W.mg_none_of X G n_bool), (PySem.W.mg_none_of X G n_list)⟩
  exact ⟨T.d_law, fun s v => .of_eq rfl, fun base _ _ => ok_law T⟩
end My
open PySem PySem.W PyProof.Rows
set_option maxHeartbeats 0 in
theorem PySem.Challenge.cw_majordomo_k18_proposer_keeps_holds : PySem.Challenge.rw_majordomo_k18_proposer_keeps.Holds := by
  w_on; o_law; k_head; (case hw => w_witness2)
  k_fill
  refine L2.walk_of (l := PySem.Challenge.rw_majordomo_k18_proposer_keeps) (n := 63) (k := 5) (x := "script") (CX := (fun _ => L2.CX0)) (sp := fun w => My.sp_law _) rfl (by decide) rfl ⟨rfl, by decide, by decide⟩ (fun w h Y => PySem.W.kIn_of Y) ?F (fun _ _ a ns hl _ hS => ⟨a, ns, rfl, hS, hl, fun _ => rfl⟩) (fun _ _ _ _ _ h => h)
  case F =>
    intro w mg fa h KX G hmg
    refine' My.all_mk KX G hmg ?g_majority ?l_majority ?c_majority ?k_majority ?g_next_ballot ?l_next_ballot ?c_next_ballot ?k_next_ballot ?g_value_to_propose ?l_value_to_propose ?c_value_to_propose ?k_value_to_propose ?gc_Proposer ?m_Proposer___init__ ?i_Proposer___init__ ?l_Proposer___init__ ?c_Proposer___init__ ?k_Proposer___init__ ?m_Proposer_saw ?i_Proposer_saw ?l_Proposer_saw ?c_Proposer_saw ?k_Proposer_saw ?m_Proposer_begin ?i_Proposer_begin ?l_Proposer_begin ?c_Proposer_begin ?k_Proposer_begin ?m_Proposer_hear_promise ?i_Proposer_hear_promise ?l_Proposer_hear_promise ?c_Proposer_hear_promise ?k_Proposer_hear_promise ?m_Proposer__open_accepted ?i_Proposer__open_accepted ?l_Proposer__open_accepted ?c_Proposer__open_accepted ?k_Proposer__open_accepted ?m_Proposer__promised_pairs ?i_Proposer__promised_pairs ?l_Proposer__promised_pairs ?c_Proposer__promised_pairs ?k_Proposer__promised_pairs ?m_Proposer_propose ?i_Proposer_propose ?l_Proposer_propose ?c_Proposer_propose ?k_Proposer_propose ?m_Proposer_hear_accepted ?i_Proposer_hear_accepted ?l_Proposer_hear_accepted ?c_Proposer_hear_accepted ?k_Proposer_hear_accepted ?m_Proposer_open_proposals ?i_Proposer_open_proposals ?l_Proposer_open_proposals ?c_Proposer_open_proposals ?k_Proposer_open_proposals ?m_Proposer_stop ?i_Proposer_stop ?l_Proposer_stop ?c_Proposer_stop ?k_Proposer_stop ?m_Proposer__forget_proposals ?i_Proposer__forget_proposals ?l_Proposer__forget_proposals ?c_Proposer__forget_proposals ?k_Proposer__forget_proposals ?g__law_draws ?l__law_draws ?c__law_draws ?k__law_draws ?g__law_value ?l__law_value ?c__law_value ?k__law_value ?g__law_promise ?l__law_promise ?c__law_promise ?k__law_promise ?g__law_accepted ?l__law_accepted ?c__law_accepted ?k__law_accepted ?g__law_begin ?l__law_begin ?c__law_begin ?k__law_begin ?g__law_saw ?l__law_saw ?c__law_saw ?k__law_saw ?g__law_other ?l__law_other ?c__law_other ?k__law_other ?g__law_deed ?l__law_deed ?c__law_deed ?k__law_deed ?g_law ?l_law ?c_law ?k_law ?pg_Proposer ?hd_Proposer ?po_Proposer ?sa_Proposer ?mk_Proposer ?kc_Proposer ?na_Proposer_ballot ?na_Proposer_state ?na_Proposer__index ?na_Proposer__count ?na_Proposer__seen ?na_Proposer__next_slot ?na_Proposer__promises ?na_Proposer__proposals ?na_Proposer__voters ?c_NOTHING ?q_NOTHING ?v_NOTHING ?c_IDLE ?c_PREPARING ?c_LEADING ?n_max ?n_sorted ?n_tuple ?n_len ?n_range ?n_min ?n_abs ?n_int ?n_isinstance ?n_bool ?n_list
    (case g_majority => k_is); (case l_majority => k_is); (case c_majority => k_is); (case k_majority => k_is); (case g_next_ballot => k_is); (case l_next_ballot => k_is); (case c_next_ballot => k_is); (case k_next_ballot => k_is); (case g_value_to_propose => k_is); (case l_value_to_propose => k_is); (case c_value_to_propose => k_is); (case k_value_to_propose => k_is); (case gc_Proposer => k_is); (case m_Proposer___init__ => k_is); (case i_Proposer___init__ => k_is); (case l_Proposer___init__ => k_is); (case c_Proposer___init__ => k_is); (case k_Proposer___init__ => k_is); (case m_Proposer_saw => k_is); (case i_Proposer_saw => k_is); (case l_Proposer_saw => k_is); (case c_Proposer_saw => k_is); (case k_Proposer_saw => k_is); (case m_Proposer_begin => k_is); (case i_Proposer_begin => k_is); (case l_Proposer_begin => k_is); (case c_Proposer_begin => k_is); (case k_Proposer_begin => k_is); (case m_Proposer_hear_promise => k_is); (case i_Proposer_hear_promise => k_is); (case l_Proposer_hear_promise => k_is); (case c_Proposer_hear_promise => k_is); (case k_Proposer_hear_promise => k_is); (case m_Proposer__open_accepted => k_is); (case i_Proposer__open_accepted => k_is); (case l_Proposer__open_accepted => k_is); (case c_Proposer__open_accepted => k_is); (case k_Proposer__open_accepted => k_is); (case m_Proposer__promised_pairs => k_is); (case i_Proposer__promised_pairs => k_is); (case l_Proposer__promised_pairs => k_is); (case c_Proposer__promised_pairs => k_is); (case k_Proposer__promised_pairs => k_is); (case m_Proposer_propose => k_is); (case i_Proposer_propose => k_is); (case l_Proposer_propose => k_is); (case c_Proposer_propose => k_is); (case k_Proposer_propose => k_is); (case m_Proposer_hear_accepted => k_is); (case i_Proposer_hear_accepted => k_is); (case l_Proposer_hear_accepted => k_is); (case c_Proposer_hear_accepted => k_is); (case k_Proposer_hear_accepted => k_is); (case m_Proposer_open_proposals => k_is); (case i_Proposer_open_proposals => k_is); (case l_Proposer_open_proposals => k_is); (case c_Proposer_open_proposals => k_is); (case k_Proposer_open_proposals => k_is); (case m_Proposer_stop => k_is); (case i_Proposer_stop => k_is); (case l_Proposer_stop => k_is); (case c_Proposer_stop => k_is); (case k_Proposer_stop => k_is); (case m_Proposer__forget_proposals => k_is); (case i_Proposer__forget_proposals => k_is); (case l_Proposer__forget_proposals => k_is); (case c_Proposer__forget_proposals => k_is); (case k_Proposer__forget_proposals => k_is); (case g__law_draws => k_is); (case l__law_draws => k_is); (case c__law_draws => k_is); (case k__law_draws => k_is); (case g__law_value => k_is); (case l__law_value => k_is); (case c__law_value => k_is); (case k__law_value => k_is); (case g__law_promise => k_is); (case l__law_promise => k_is); (case c__law_promise => k_is); (case k__law_promise => k_is); (case g__law_accepted => k_is); (case l__law_accepted => k_is); (case c__law_accepted => k_is); (case k__law_accepted => k_is); (case g__law_begin => k_is); (case l__law_begin => k_is); (case c__law_begin => k_is); (case k__law_begin => k_is); (case g__law_saw => k_is); (case l__law_saw => k_is); (case c__law_saw => k_is); (case k__law_saw => k_is); (case g__law_other => k_is); (case l__law_other => k_is); (case c__law_other => k_is); (case k__law_other => k_is); (case g__law_deed => k_is); (case l__law_deed => k_is); (case c__law_deed => k_is); (case k__law_deed => k_is); (case g_law => k_is); (case l_law => k_is); (case c_law => k_is); (case k_law => k_is); (case pg_Proposer => k_is); (case hd_Proposer => k_is); (case po_Proposer => k_is); (case sa_Proposer => k_is); (case mk_Proposer => k_is); (case kc_Proposer => k_is); (case na_Proposer_ballot => k_is); (case na_Proposer_state => k_is); (case na_Proposer__index => k_is); (case na_Proposer__count => k_is); (case na_Proposer__seen => k_is); (case na_Proposer__next_slot => k_is); (case na_Proposer__promises => k_is); (case na_Proposer__proposals => k_is); (case na_Proposer__voters => k_is); (case c_NOTHING => k_is); (case q_NOTHING => k_is); (case v_NOTHING => (repeat (first | exact .nil | refine .cons ⟨_, rfl⟩ ?_ | refine .cons rfl ?_))); (case c_IDLE => k_is); (case c_PREPARING => k_is); (case c_LEADING => k_is); (case n_max => k_is); (case n_sorted => k_is); (case n_tuple => k_is); (case n_len => k_is); (case n_range => k_is); (case n_min => k_is); (case n_abs => k_is); (case n_int => k_is); (case n_isinstance => k_is); (case n_bool => k_is); (case n_list => k_is)

