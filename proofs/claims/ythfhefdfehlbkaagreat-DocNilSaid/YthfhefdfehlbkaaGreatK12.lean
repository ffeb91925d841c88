/-
  TREES IN MEMORY: two maps, and a map for each place that has nodes below it; New, ours, top, right, Has, Spot.
  No conditions but sizes.
  lay and lift: a spot more, and one less.
  No conditions but sizes.
-/
import Derived.Test.YthfhefdfehlbkaaGreatSh
import Derived.Test.YthfhefdfehlbkaaGreatK11
import Derived.Test.YthfhefdfehlbkaaGreatK1B
import Derived.Deep.Cut
import Derived.Deep.DeepCutAuto
set_option maxRecDepth 100000
set_option maxHeartbeats 8000000
namespace Go.Proofs.YthfhefdfehlbkaaGreat
open Go.RowKit
open Tm (Sp Tr has put cut kids)
def spA (s:Sp):Array Value:=#[.int .i64 s.1.1,.int .i64 s.1.2,.string s.2]
abbrev spV (s:Sp):Value:=.agg (spA s)
def zS:Sp:=((0,0),⟨#[]⟩)
theorem spA_one (s:Sp):(spA s).all (·.oneCell')=true:=all_oneCell_toArray (cs:=[.int .i64 s.1.1,.int .i64 s.1.2,.string s.2]) (by
 intro v hv
 simp only [List.mem_cons,List.not_mem_nil,or_false] at hv
 rcases hv with rfl | rfl | rfl <;> rfl)
theorem spT:AgT 106 3:=⟨⟨_,Tryz.underlying106⟩,by kernel_rfl⟩
theorem mtSpots:MapT 237 106 (.agg (spA zS)):=⟨Tryz.underlying237,fun _=>by kernel_rfl⟩
theorem mtBelow:MapT 146 242 (.map none):=⟨Tryz.underlying146,fun _=>by kernel_rfl⟩
theorem mtSet:MapT 242 147 (.agg #[]):=⟨Tryz.underlying242,fun _=>by kernel_rfl⟩
structure Kid where
 p:Qm.St
 b:Nat
 l:List Qm.St
def spots (T:Tr):List (Qm.St × Value):=T.map fun e=>(e.1,spV e.2)
def belows (C:List Kid):List (Qm.St × Value):=C.map fun c=>(c.p,Value.map (some c.b))
def nodesOf (l:List Qm.St):List (Qm.St × Value):=l.map fun n=>(n,Value.agg #[])
theorem lk_spots (T:Tr) (n:Qm.St):lk (spots T) n=(Tm.look T n).map spV:=lk_map spV T n
theorem lk_nodes {l:List Qm.St} {n:Qm.St}:lk (nodesOf l) n=if n ∈ l then some (.agg #[]) else none:=by
 unfold lk nodesOf
 rw [List.find?_map]
 by_cases h:n ∈ l
 ·rw [if_pos h]
  cases h2:l.find? ((fun e:Qm.St × Value=>e.1 == n) ∘ fun n=>(n,Value.agg #[])) with
  | none =>
   have:=List.find?_eq_none.1 h2 n h
   simp at this
  | some a=>rfl
 ·rw [if_neg h]
  have:l.find? ((fun e:Qm.St × Value=>e.1 == n) ∘ fun n=>(n,Value.agg #[]))=none:=List.find?_eq_none.2 fun a ha=>by
   simp
   intro e
   exact h (e ▸ ha)
  rw [this]
  rfl
structure Mem (w:World) (P M1 M2:Nat) (T:Tr) (C:List Kid) (F:Nat→Prop):Prop where
 at_:AgAt w P #[.map (some M1),.map (some M2)]
 spots:SMap w M1 (spots T)
 below:SMap w M2 (belows C)
 inner:∀ c ∈ C,SMap w c.b (nodesOf c.l)
 fP:F P
 f1:F M1
 f2:F M2
 fK:∀ c ∈ C,F c.b
 ne:P≠M1∧P≠M2∧M1≠M2
 kne:∀ c ∈ C,c.b≠P∧c.b≠M1∧c.b≠M2
 knd:(C.map Kid.b).Nodup
 lt:∀ k,F k→k<w.heap.size
structure Lay (w:World) (P M1 M2:Nat) (T:Tr) (C:List Kid) (F:Nat→Prop):Prop extends Mem w P M1 M2 T C F where
 full:∀ c ∈ C,c.l ≠ []∧∀ n,n ∈ c.l↔n ∈ kids T c.p
 all:∀ e ∈ T,∃ c ∈ C,c.p=e.2.1
section
variable {w w':World} {P M1 M2:Nat} {T:Tr} {C:List Kid} {F G:Nat→Prop}
theorem Mem.turns (h:Mem w P M1 M2 T C F) (ht:Turns G w w') (hd:∀ k,F k→¬ G k):Mem w' P M1 M2 T C F :=
 ⟨h.at_.block (ht.block _ (h.lt _ h.fP) (hd _ h.fP)),h.spots.turns ht (hd _ h.f1),h.below.turns ht (hd _ h.f2),fun c hc=>(h.inner c hc).turns ht (hd _ (h.fK c hc)),h.fP,h.f1,h.f2,h.fK,h.ne,h.kne,h.knd,
  fun k hk=>Nat.lt_of_lt_of_le (h.lt k hk) ht.size⟩
theorem Mem.kept (h:Mem w P M1 M2 T C F) (hb:Below w.heap.size w w'):Mem w' P M1 M2 T C F:=h.turns (Turns.of_below (F:=fun _=>False) hb) fun _ _ h=>h
theorem Mem.more (h:Mem w P M1 M2 T C F) (hm:∀ k,F k→G k) (hl:∀ k,G k→k<w.heap.size):Mem w P M1 M2 T C G :=
 ⟨h.at_,h.spots,h.below,h.inner,hm _ h.fP,hm _ h.f1,hm _ h.f2,fun c hc=>hm _ (h.fK c hc),h.ne,h.kne,h.knd,hl⟩
theorem Lay.turns (h:Lay w P M1 M2 T C F) (ht:Turns G w w') (hd:∀ k,F k→¬ G k):Lay w' P M1 M2 T C F:=⟨h.toMem.turns ht hd,h.full,h.all⟩
theorem Lay.kept (h:Lay w P M1 M2 T C F) (hb:Below w.heap.size w w'):Lay w' P M1 M2 T C F:=h.turns (Turns.of_below (F:=fun _=>False) hb) fun _ _ h=>h
theorem Lay.more (h:Lay w P M1 M2 T C F) (hm:∀ k,F k→G k) (hl:∀ k,G k→k<w.heap.size):Lay w P M1 M2 T C G:=⟨h.toMem.more hm hl,h.full,h.all⟩
theorem Mem.cell0 (h:Mem w P M1 M2 T C F):w.cell? ⟨P,0,none⟩=some (.map (some M1)):=by rw [AgAt.cell h.at_ 0]; rfl
theorem Mem.cell1 (h:Mem w P M1 M2 T C F):w.cell? ⟨P,1,none⟩=some (.map (some M2)):=by rw [AgAt.cell h.at_ 1]; rfl
theorem Mem.nd (h:Mem w P M1 M2 T C F):(T.map Prod.fst).Nodup:=by
 have:=h.spots.nd
 unfold Go.Proofs.YthfhefdfehlbkaaGreat.spots at this
 rwa [List.map_map] at this
theorem Mem.wf (h:Mem w P M1 M2 T C F):∀ e ∈ T,StWf e.1:=fun e he=>h.spots.wf (e.1,spV e.2) (List.mem_map.2 ⟨e,he,rfl⟩)
theorem Mem.cnd (h:Mem w P M1 M2 T C F):(C.map Kid.p).Nodup:=by
 have:=h.below.nd
 unfold belows at this
 rwa [List.map_map] at this
theorem Mem.look1 (h:Mem w P M1 M2 T C F) (n:Qm.St) (hn:StWf n) :
  (Instr.lookup 237 (.map (some M1)) (snV n) true).run Tryz.prog w=.ok (.tuple #[.agg (spA ((Tm.look T n).getD zS)),.bool (Tm.look T n).isSome]) w:=by
 rw [h.spots.lookOk mtSpots n hn,lk_spots]
 cases Tm.look T n <;> rfl
def kidOf (C:List Kid) (p:Qm.St):Option Nat:=(C.find? fun c=>c.p == p).map Kid.b
theorem lk_belows (C:List Kid) (p:Qm.St):(lk (belows C) p).getD (.map none)=.map (kidOf C p):=by
 unfold lk belows kidOf
 rw [List.find?_map]
 cases h:C.find? ((fun e:Qm.St × Value=>e.1 == p) ∘ fun c=>(c.p,Value.map (some c.b))) with
 | none =>
  have:C.find? (fun c=>c.p == p)=none:=h
  rw [this]
  rfl
 | some a =>
  have:C.find? (fun c=>c.p == p)=some a:=h
  rw [this]
  rfl
theorem Mem.lookB (h:Mem w P M1 M2 T C F) (n:Qm.St) (hn:StWf n) :
  (Instr.lookup 146 (.map (some M2)) (snV n) false).run Tryz.prog w=.ok (.map (kidOf C n)) w:=by
 rw [h.below.look mtBelow n hn,lk_belows]
theorem kidOf_some {C:List Kid} {p:Qm.St} {b:Nat} (h:kidOf C p=some b):∃ c ∈ C,c.p=p∧c.b=b:=by
 unfold kidOf at h
 obtain ⟨c,hc,rfl⟩:=Option.map_eq_some_iff.1 h
 have h1:=List.find?_some hc
 exact ⟨c,List.mem_of_find?_eq_some hc,by simpa using h1,rfl⟩
theorem kidOf_none {C:List Kid} {p:Qm.St} (h:kidOf C p=none):∀ c ∈ C,c.p≠p:=by
 unfold kidOf at h
 rw [Option.map_eq_none_iff,List.find?_eq_none] at h
 intro c hc
 simpa using h c hc
theorem one_of {α β:Type} {f:α→β} {C:List α} (nd:(C.map f).Nodup) {c c':α} (h:c ∈ C) (h':c' ∈ C) (e:f c=f c'):c=c':=by
 induction C with
 | nil=>cases h
 | cons a C ih =>
  rw [List.map_cons,List.nodup_cons] at nd
  rcases List.mem_cons.1 h with h1 | h1 <;> rcases List.mem_cons.1 h' with h2 | h2
  ·rw [h1,h2]
  ·exact absurd (List.mem_map.2 ⟨c',h2,by rw [← e,h1]⟩) nd.1
  ·exact absurd (List.mem_map.2 ⟨c,h1,by rw [e,h2]⟩) nd.1
  ·exact ih nd.2 h1 h2
theorem kidOf_of {C:List Kid} (nd:(C.map Kid.p).Nodup) {c:Kid} (h:c ∈ C):kidOf C c.p=some c.b:=by
 cases h2:kidOf C c.p with
 | none=>exact absurd rfl (kidOf_none h2 c h)
 | some b =>
  obtain ⟨c',h3,h4,rfl⟩:=kidOf_some h2
  rw [one_of nd h3 h h4]
theorem Lay.kidNone (h:Lay w P M1 M2 T C F) {p:Qm.St} (hk:kidOf C p=none):kids T p=[]:=by
 rw [Tm.kids_nil]
 intro e he hh
 obtain ⟨c,hc,h2⟩:=h.all e he
 exact kidOf_none hk c hc (h2.trans hh)
theorem Lay.kidSome (h:Lay w P M1 M2 T C F) {p:Qm.St} {b:Nat} (hk:kidOf C p=some b):∃ c ∈ C,c.p=p∧c.b=b∧SMap w b (nodesOf c.l)∧c.l ≠ []∧c.l.Perm (kids T p):=by
 obtain ⟨c,hc,rfl,rfl⟩:=kidOf_some hk
 have h1:=h.inner c hc
 have h2:c.l.Nodup:=by
  have:=h1.nd
  unfold nodesOf at this
  rw [List.map_map,show (Prod.fst ∘ fun n:Qm.St=>(n,Value.agg #[]))=id from rfl,List.map_id] at this
  exact this
 refine ⟨c,hc,rfl,rfl,h1,(h.full c hc).1,?_⟩
 exact (List.perm_ext_iff_of_nodup h2 (Tm.kids_nodup h.nd _)).2 (h.full c hc).2
end
def Newed (w:World) (e:Ending) (w':World):Prop:=∃ P M1 M2,e=.returned (.pointer (some ⟨P,0,none⟩))∧Lay w' P M1 M2 [] [] (fun k=>w.heap.size≤k∧k<w'.heap.size)∧Below w.heap.size w w'
theorem new_any (w:World):Calls Tryz.prog 76 #[] w (Newed w):=by
 have h1:∀ (w:World) (o:Obj),(w.alloc o).heap.size=w.heap.size+1:=fun w o=>by simp
 have b1:∀ (w:World) (o:Obj),Below w.heap.size w (w.alloc o):=fun w o=>(Below.refl _ _).alloc (Nat.le_refl _) _
 have HE:=Hi (show Lay (((w.alloc (.map #[] 0)).alloc (.map #[] 0)).alloc (.cells #[.map (some w.heap.size),.map (some (w.heap.size+1))] 239)) (w.heap.size+1+1) w.heap.size (w.heap.size+1) [] []
   (fun k=>w.heap.size≤k∧k<(((w.alloc (.map #[] 0)).alloc (.map #[] 0)).alloc (.cells #[.map (some w.heap.size),.map (some (w.heap.size+1))] 239)).heap.size) ∧
   Below w.heap.size w (((w.alloc (.map #[] 0)).alloc (.map #[] 0)).alloc (.cells #[.map (some w.heap.size),.map (some (w.heap.size+1))] 239)) from by
  have k2:=SMap.made (w.alloc (.map #[] 0))
  have k3:=AgAt.new ((w.alloc (.map #[] 0)).alloc (.map #[] 0)) #[.map (some w.heap.size),.map (some (w.heap.size+1))] 239
  simp only [h1] at k2 k3
  refine ⟨⟨⟨k3,((SMap.made w).below (b1 _ _)).below (b1 _ _),k2.below (b1 _ _),fun _ h=>(by cases h),?_,?_,?_,fun _ h=>(by cases h),?_,fun _ h=>(by cases h),List.nodup_nil,fun k hk=>hk.2⟩,fun _ h=>(by cases h),fun _ h=>(by cases h)⟩,?_⟩
  ·simp only [h1]; omega
  ·simp only [h1]; omega
  ·simp only [h1]; omega
  ·omega
  ·exact (b1 _ _).trans (((b1 _ _).mono (by simp)).trans ((b1 _ _).mono (by simp; omega))))
 have hmm:=@run_makeMap Tryz.prog
 clear h1 b1
 go_enter Tryz.func76,Tryz.ntmps76
 go_wp2
 go_ret
 exact ⟨_,_,_,rfl,HE.out.1,HE.out.2⟩
theorem map_neq (w:World) (M:Nat):Sem.run Tryz.prog (binOp BinOp.neq 237 (Value.map (some M)) (Value.map none)) w=.ok (.bool true) w:=by kernel_rfl
theorem ours_any {P M1 M2:Nat} {T:Tr} {C:List Kid} {F:Nat→Prop} (w:World) (h:Lay w P M1 M2 T C F) :
  Calls Tryz.prog 160 #[.pointer (some ⟨P,0,none⟩)] w fun e w'=>e=.returned (.bool true)∧w=w':=by
 have y0:=h.cell0
 have hne:=map_neq w M1
 clear h
 go_enter Tryz.func160,Tryz.ntmps160
 go_wp2
 go_ret
 exact ⟨rfl,rfl⟩
theorem top_any (n:Qm.St) (w:World):Calls Tryz.prog 259 #[snV n] w fun e w'=>e=.returned (.bool (Tm.top n))∧Below w.heap.size w w':=by
 obtain ⟨t,r⟩:=n
 have HB:=Hi ((Below.refl w.heap.size w).alloc (Nat.le_refl _) (.cells #[.int .i64 t,.int .i64 r] 35))
 have HT:=Hi (AgAt.new w #[.int .i64 t,.int .i64 r] 35)
 have HR:=Hi (show Tm.top (t,r)=(okPlace t r && !okNode t r) from rfl)
 rw [HR.out]
 clear HR
 have HP:=Hi (fun W=>oplace_any t r W)
 have HQ:=Hi (fun W=>onode_any t r W)
 generalize okNode t r=nb at *
 generalize okPlace t r=pb at *
 cases pb with
 | false =>
  go_enter Tryz.func259,Tryz.ntmps259
  go_wp2_with fail
  refine (HP.out _).mono ?_
  rintro e w1 ⟨rfl,hb1⟩
  have HB1:=Hi (HB.out.trans (hb1.mono HB.out.size))
  clear hb1
  go_wp2
  go_ret
  exact ⟨rfl,HB1.out⟩
 | true =>
  go_enter Tryz.func259,Tryz.ntmps259
  go_wp2_with fail
  refine (HP.out _).mono ?_
  rintro e w1 ⟨rfl,hb1⟩
  have HB1:=Hi (HB.out.trans (hb1.mono HB.out.size))
  have HT1:=Hi (AgAt.kept HT.out hb1)
  clear hb1
  go_wp2_with (refine wpList_load_ag stT (by kernel_rfl) _ rfl _ rfl (A:=#[.int .i64 t,.int .i64 r]) rfl HT1.out ?_)
  refine (HQ.out _).mono ?_
  rintro e w2 ⟨rfl,hb2⟩
  have HB2:=Hi (HB1.out.trans (hb2.mono HB1.out.size))
  clear hb2
  go_wp2
  go_ret
  exact ⟨rfl,HB2.out⟩
theorem AgAt.range {w:World} {b:Nat} {A:Array Value} (h:AgAt w b A) (o:Nat) (cs:List Value) (hc:∀ j v,cs[j]?=some v→A[o+j]?=some v):w.rangeAt b o cs:=fun j v hv=>by
 rw [AgAt.cell h]
 exact hc j v hv
theorem wpList_load_part {t:TypeId} {n:Nat} (V:AgT t n) {ops:Array Oper} {rest:List Oper} {o:Oper} {a:Act} {w:World} {Q:Exit→Act→World→Prop} (hgd:o.guard=none) (y:Operand) (ho:o.op=.load t y)
  (b i:Nat) (hx:a.eval y=.pointer (some ⟨b,i,none⟩)) (cs:List Value) (hn:cs.length=n) {A:Array Value} (hv:AgAt w b A) (hc:∀ j v,cs[j]?=some v→A[i+j]?=some v)
  (h:wpList Tryz.prog ops Q rest (a.put o.dst (.agg cs.toArray)) w):wpList Tryz.prog ops Q (o :: rest) a w:=by
 obtain ⟨d,hu⟩:=V.und
 exact wpList_load_mid hgd t y ho b i hx cs _ (hv.range i cs hc) hu rfl (by rw [hn]; exact V.size) h
theorem exec_load_part {t:TypeId} {n:Nat} (V:AgT t n) {c:Act} {o:Oper} {x:Operand} {w:World} (ho:o.op=.load t x) {b i:Nat} (hx:c.eval x=.pointer (some ⟨b,i,none⟩)) (cs:List Value) (hn:cs.length=n) {A:Array Value} (hv:AgAt w b A) (hc:∀ j v,cs[j]?=some v→A[i+j]?=some v) :
  (execOp c.eval o).run Tryz.prog w=.ok (.value (.agg cs.toArray)) w:=by
 obtain ⟨d,hu⟩:=V.und
 unfold execOp
 simp only [ho,hx,Sem.run_bind,run_loadAt_mid w b i t cs _ (hv.range i cs hc) hu rfl (by rw [hn]; exact V.size),Result.andThen_ok,Sem.run_pure]
theorem spPar {s:Sp}:∀ j v,[Value.int .i64 s.1.1,.int .i64 s.1.2][j]?=some v→(spA s)[0+j]?=some v:=fun j v h=>by
 match j,h with
 | 0,h=>exact h
 | 1,h=>exact h
theorem rightSp_any (s:Sp) (w:World) (hk:s.2.size≤140737488355328):Calls Tryz.prog 321 #[spV s] w fun e w'=>e=.returned (.bool (Tm.rightSp s))∧Below w.heap.size w w':=by
 have HB:=Hi ((Below.refl w.heap.size w).alloc (Nat.le_refl _) (.cells (spA s) 106))
 have HT:=Hi (AgAt.new w (spA s) 106)
 have HR:=Hi (show Tm.rightSp s=(okPlace s.1.1 s.1.2 && Km.rightB s.2.data.toList) from rfl)
 rw [HR.out]
 clear HR
 have HP:=Hi (fun W=>oplace_any s.1.1 s.1.2 W)
 have HQ:=Hi (fun W=>kright_any s.2 W hk)
 clear hk
 generalize Km.rightB s.2.data.toList=nb at *
 generalize okPlace s.1.1 s.1.2=pb at *
 cases pb with
 | false =>
  go_enter Tryz.func321,Tryz.ntmps321
  go_wp2_with (refine wpList_load_part stT rfl _ rfl _ 0 rfl [.int .i64 s.1.1,.int .i64 s.1.2] rfl HT.out spPar ?_)
  refine (HP.out _).mono ?_
  rintro e w1 ⟨rfl,hb1⟩
  have HB1:=Hi (HB.out.trans (hb1.mono HB.out.size))
  clear hb1
  go_wp2
  go_ret
  exact ⟨rfl,HB1.out⟩
 | true =>
  go_enter Tryz.func321,Tryz.ntmps321
  go_wp2_with (refine wpList_load_part stT rfl _ rfl _ 0 rfl [.int .i64 s.1.1,.int .i64 s.1.2] rfl HT.out spPar ?_)
  refine (HP.out _).mono ?_
  rintro e w1 ⟨rfl,hb1⟩
  have HB1:=Hi (HB.out.trans (hb1.mono HB.out.size))
  have y2:w1.cell? ⟨w.heap.size,2,none⟩=some (.string s.2):=by rw [AgAt.cell (AgAt.kept HT.out hb1) 2]; rfl
  clear hb1
  go_wp2_with fail
  refine (HQ.out _).mono ?_
  rintro e w2 ⟨rfl,rfl⟩
  go_wp2
  go_ret
  exact ⟨rfl,HB1.out⟩
theorem has_any {P M1 M2:Nat} {T:Tr} {C:List Kid} {F:Nat→Prop} (n:Qm.St) (w:World) (h:Lay w P M1 M2 T C F) (hn:StWf n) :
  Calls Tryz.prog 188 #[.pointer (some ⟨P,0,none⟩),snV n] w fun e w'=>e=.returned (.bool (has T n))∧Below w.heap.size w w':=by
 have hb:=(Below.refl w.heap.size w).alloc (Nat.le_refl _) (.cells #[.int .i64 n.1,.int .i64 n.2] 35)
 have HN:=Hi (AgAt.new w #[.int .i64 n.1,.int .i64 n.2] 35)
 have HL:=Hi (h.kept hb)
 have HB:=Hi hb
 have HWF:=Hi hn
 have HR:=Hi (show has T n=((Tm.look T n).isSome || Tm.top n) from rfl)
 obtain ⟨ib,hib⟩:∃ b,b=(Tm.look T n).isSome:=⟨_,rfl⟩
 obtain ⟨va,hva⟩:∃ s,s=(Tm.look T n).getD zS:=⟨_,rfl⟩
 have HIB:=Hi hib
 have HVA:=Hi hva
 rw [HR.out,← hib]
 have HTOP:=Hi (fun W=>top_any n W)
 generalize Tm.top n=tb at *
 clear h hb hn HR hib hva
 go_enter Tryz.func188,Tryz.ntmps188
 go_wp2_with fail
 refine (ours_any _ HL.out).mono ?_
 rintro e w1 ⟨rfl,rfl⟩
 go_upto_region 3 with fail
 generalize w.alloc (.cells #[.int .i64 n.1,.int .i64 n.2] 35)=w1 at *
 refine wp_region_held_drew (S:=fun W=>Below w1.heap.size w1 W) (by kernel_rfl) (Below.refl _ _).drew (fun hS=>?_)
 generalize w1.drew=wd at *
 refine tX 0 rfl hS ?_
 refine tX 1 rfl hS ?_
 refine tX 2 rfl hS ?_
 refine tK 3 (v:=?_) rfl ?_ hS ?_
 rotate_left
 ·intro W hSW
  have y0:=(HL.out.kept hSW).cell0
  go_simp
  all_goals with_reducible rfl
 go_simp
 refine tK 4 (v:=snV n) rfl (fun W hSW=>exec_load_ag stT rfl rfl rfl (AgAt.kept HN.out hSW)) hS ?_
 go_simp
 refine tK 5 (v:=.tuple #[.agg (spA va),.bool ib]) rfl (fun W hSW=>exec_lookup rfl rfl rfl (by rw [HIB.out,HVA.out]; exact (HL.out.kept hSW).look1 _ HWF.out)) hS ?_
 refine tX 6 rfl hS ?_
 refine tX 7 rfl hS ?_
 refine tX 8 rfl hS ?_
 go_simp
 refine rD 9 rfl (fun K hK=>?_)
 have HS0:=Hi hS
 go_simp
 have hba:=(Below.refl wd.heap.size wd).alloc (Nat.le_refl _) (.cells #[.int .i64 0,.int .i64 0,.string ⟨#[]⟩] 106)
 refine hK.out _ _ (hS.trans (hba.mono hS.size)) (fun hS=>?_)
 clear hK K hba
 refine rD 10 rfl (fun K hK=>?_)
 refine step_of (by kernel_rfl) ?_
 refine wp_store_newag spT _ _ rfl rfl _ (A:=spA va) rfl rfl rfl (spA_one _) ?_
 intro w5 hv5 hb5
 have HV5:=Hi hv5
 have HB5:=Hi hb5
 refine hK.out _ _ (HS0.out.trans (hb5.mono HS0.out.size)) (fun hS=>?_)
 clear hK K hv5 hb5
 refine tX 11 rfl hS ?_
 go_simp
 refine wpAnyH_done (by kernel_rfl) ?_ _
 go_simp
 have HB5a:=Hi (HB.out.trans (hS.mono HB.out.size))
 have HN5:=Hi (AgAt.kept HN.out hS)
 clear hS HV5 HB5 HS0 HL HIB HVA
 cases ib with
 | true =>
  go_wp2
  go_ret
  exact ⟨rfl,HB5a.out⟩
 | false =>
  go_wp2_with (refine wpList_load_ag stT (by kernel_rfl) _ rfl _ rfl (A:=#[.int .i64 n.1,.int .i64 n.2]) rfl HN5.out ?_)
  refine (HTOP.out _).mono ?_
  rintro e w6 ⟨rfl,hb6⟩
  have HB6:=Hi (HB5a.out.trans (hb6.mono HB5a.out.size))
  clear hb6
  go_wp2
  go_ret
  exact ⟨rfl,HB6.out⟩
open Go.RowKit
open Tm (Sp Tr has put cut kids)
def setKid (C:List Kid) (p:Qm.St) (f:List Qm.St→List Qm.St):List Kid:=C.map fun c=>if c.p=p then { c with l:=f c.l } else c
theorem setKid_b (C:List Kid) (p:Qm.St) (f:List Qm.St→List Qm.St):(setKid C p f).map Kid.b=C.map Kid.b:=by
 unfold setKid
 rw [List.map_map]
 refine List.map_congr_left fun c _=>?_
 show Kid.b (if c.p=p then { c with l:=f c.l } else c)=c.b
 split <;> rfl
theorem belows_setKid (C:List Kid) (p:Qm.St) (f:List Qm.St→List Qm.St):belows (setKid C p f)=belows C:=by
 unfold setKid belows
 rw [List.map_map]
 refine List.map_congr_left fun c _=>?_
 show (Kid.p (if c.p=p then { c with l:=f c.l } else c),Value.map (some (Kid.b (if c.p=p then { c with l:=f c.l } else c))))=(c.p,Value.map (some c.b))
 split <;> rfl
theorem mem_setKid {C:List Kid} {p:Qm.St} {f:List Qm.St→List Qm.St} {c':Kid} (h:c' ∈ setKid C p f):∃ c ∈ C,c'.p=c.p∧c'.b=c.b∧(c.p=p→c'.l=f c.l)∧(c.p≠p→c'=c):=by
 obtain ⟨c,hc,rfl⟩:=List.mem_map.1 h
 refine ⟨c,hc,?_⟩
 by_cases e:c.p=p
 ·rw [if_pos e]
  exact ⟨rfl,rfl,fun _=>rfl,fun h=>absurd e h⟩
 ·rw [if_neg e]
  exact ⟨rfl,rfl,fun h=>absurd h e,fun _=>rfl⟩
theorem setKid_mem {C:List Kid} {p:Qm.St} {f:List Qm.St→List Qm.St} {c:Kid} (h:c ∈ C):∃ c' ∈ setKid C p f,c'.p=c.p:=by
 refine ⟨_,List.mem_map.2 ⟨c,h,rfl⟩,?_⟩
 by_cases e:c.p=p
 ·rw [if_pos e]
 ·rw [if_neg e]
theorem kidOf_new {C:List Kid} {p:Qm.St} {b:Nat} (h:kidOf C p=none):kidOf (C ++ [(⟨p,b,[]⟩:Kid)]) p=some b:=by
 unfold kidOf at h ⊢
 rw [List.find?_append]
 rw [Option.map_eq_none_iff] at h
 rw [h]
 simp
def Half (T:Tr) (C:List Kid) (p:Qm.St):Prop:=(∀ c ∈ C,(c.p≠p→c.l ≠ [])∧∀ n,n ∈ c.l↔n ∈ kids T c.p)∧∀ e ∈ T,∃ c ∈ C,c.p=e.2.1
theorem kids_put {T:Tr} {n q:Qm.St} {s:Sp}:kids (put T n s) q=kids T q ++ if s.1=q then [n] else []:=by
 unfold kids put
 rw [List.filter_append,List.map_append]
 by_cases e:s.1=q
 ·rw [if_pos e,List.filter_cons_of_pos (by simpa using e)]
  rfl
 ·rw [if_neg e,List.filter_cons_of_neg (by simpa using e)]
  rfl
theorem Half.put {T:Tr} {C:List Kid} {n:Qm.St} {s:Sp} (h:Half T C s.1) (_:Tm.look T n=none) (hp:∃ c ∈ C,c.p=s.1) :
  (∀ c ∈ setKid C s.1 (fun l=>l ++ [n]),c.l ≠ []∧∀ m,m ∈ c.l↔m ∈ kids (Tm.put T n s) c.p)∧∀ e ∈ Tm.put T n s,∃ c ∈ setKid C s.1 (fun l=>l ++ [n]),c.p=e.2.1:=by
 constructor
 ·intro c' hc'
  obtain ⟨c,hc,h1,h2,h3,h4⟩:=mem_setKid hc'
  by_cases e:c.p=s.1
  ·rw [h3 e,h1]
   refine ⟨by simp,fun m=>?_⟩
   rw [List.mem_append,(h.1 c hc).2 m,kids_put,if_pos e.symm,List.mem_append]
  ·obtain rfl:=h4 e
   refine ⟨(h.1 c' hc).1 e,fun m=>?_⟩
   rw [(h.1 c' hc).2 m,kids_put,if_neg (fun h=>e h.symm),List.append_nil]
 ·intro e he
  rcases List.mem_append.1 he with he | he
  ·obtain ⟨c,hc,h1⟩:=h.2 e he
   obtain ⟨c',hc',h2⟩:=setKid_mem (p:=s.1) (f:=fun l=>l ++ [n]) hc
   exact ⟨c',hc',h2.trans h1⟩
  ·obtain rfl:=List.mem_singleton.1 he
   obtain ⟨c,hc,h1⟩:=hp
   obtain ⟨c',hc',h2⟩:=setKid_mem (p:=s.1) (f:=fun l=>l ++ [n]) hc
   exact ⟨c',hc',h2.trans h1⟩
section
variable {w w':World} {P M1 M2:Nat} {T:Tr} {C:List Kid} {F G:Nat→Prop}
theorem Lay.half_old (h:Lay w P M1 M2 T C F) (p:Qm.St):Half T C p:=⟨fun c hc=>⟨fun _=>(h.full c hc).1,(h.full c hc).2⟩,h.all⟩
theorem Lay.half_new (h:Lay w P M1 M2 T C F) {p:Qm.St} (hk:kidOf C p=none) (b:Nat):Half T (C ++ [(⟨p,b,[]⟩:Kid)]) p:=by
 constructor
 ·intro c hc
  rcases List.mem_append.1 hc with hc | hc
  ·exact ⟨fun _=>(h.full c hc).1,(h.full c hc).2⟩
  ·obtain rfl:=List.mem_singleton.1 hc
   refine ⟨fun h=>absurd rfl h,fun n=>?_⟩
   rw [h.kidNone hk]
 ·intro e he
  obtain ⟨c,hc,h1⟩:=h.all e he
  exact ⟨c,List.mem_append.2 (Or.inl hc),h1⟩
theorem Mem.setKid {f:List Qm.St→List Qm.St} {kc:Kid} {kb:Nat} (h:Mem w P M1 M2 T C F) (hk:kc ∈ C) (hb:kc.b=kb) (hm:SMap w' kb (nodesOf (f kc.l))) (ht:Turns (fun k=>k=kb) w w'):Mem w' P M1 M2 T (setKid C kc.p f) F:=by
 subst hb
 have h1:=h.kne kc hk
 refine ⟨h.at_.block (ht.block _ (h.lt _ h.fP) fun e=>h1.1 e.symm),h.spots.turns ht fun e=>h1.2.1 e.symm,by rw [belows_setKid]; exact h.below.turns ht fun e=>h1.2.2 e.symm,fun c' hc'=>?_,h.fP,h.f1,h.f2,fun c' hc'=>?_,h.ne,fun c' hc'=>?_,by rw [setKid_b]; exact h.knd,fun k hk=>Nat.lt_of_lt_of_le (h.lt k hk) ht.size⟩
 ·obtain ⟨c,hc,k1,k2,k3,k4⟩:=mem_setKid hc'
  by_cases e:c.p=kc.p
  ·obtain rfl:=one_of h.cnd hc hk e
   rw [k2,k3 rfl]
   exact hm
  ·obtain rfl:=k4 e
   exact (h.inner c' hc).turns ht fun e2=>e (by rw [one_of h.knd hc hk e2])
 ·obtain ⟨c,hc,k1,k2,-⟩:=mem_setKid hc'
  rw [k2]; exact h.fK c hc
 ·obtain ⟨c,hc,k1,k2,-⟩:=mem_setKid hc'
  rw [k2]; exact h.kne c hc
theorem Mem.newKid {p:Qm.St} {b:Nat} (h:Mem w P M1 M2 T C F) (hn:SMap w b []) (hm:SMap w' M2 (belows C ++ [(p,.map (some b))])) (ht:Turns (fun k=>k=M2) w w') (_:w'.heap.size=w.heap.size) (hb:¬ F b) (hl:b<w.heap.size) (hG:∀ k,G k↔F k∨k=b:=by intro k; exact Iff.rfl) :
  Mem w' P M1 M2 T (C ++ [(⟨p,b,[]⟩:Kid)]) G:=by
 have hbM:b≠M2:=fun e=>hb (by rw [e]; exact h.f2)
 have hFG:∀ k,F k→G k:=fun k hk=>(hG k).2 (Or.inl hk)
 refine ⟨h.at_.block (ht.block _ (h.lt _ h.fP) h.ne.2.1),h.spots.turns ht h.ne.2.2,by unfold belows at hm ⊢; rw [List.map_append]; exact hm,fun c hc=>?_,hFG _ h.fP,hFG _ h.f1,hFG _ h.f2,fun c hc=>?_,h.ne,fun c hc=>?_,?_,fun k hk=>?_⟩
 ·rcases List.mem_append.1 hc with hc | hc
  ·exact (h.inner c hc).turns ht (h.kne c hc).2.2
  ·obtain rfl:=List.mem_singleton.1 hc
   exact hn.turns ht hbM
 ·rcases List.mem_append.1 hc with hc | hc
  ·exact hFG _ (h.fK c hc)
  ·obtain rfl:=List.mem_singleton.1 hc
   exact (hG _).2 (Or.inr rfl)
 ·rcases List.mem_append.1 hc with hc | hc
  ·exact h.kne c hc
  ·obtain rfl:=List.mem_singleton.1 hc
   exact ⟨fun e=>hb (by rw [show b=P from e]; exact h.fP),fun e=>hb (by rw [show b=M1 from e]; exact h.f1),hbM⟩
 ·rw [List.map_append]
  refine List.nodup_append.2 ⟨h.knd,by simp,fun x hx y hy e=>?_⟩
  obtain ⟨c,hc,rfl⟩:=List.mem_map.1 hx
  have:y=b:=by simpa using hy
  subst this
  exact hb (by rw [← e]; exact h.fK c hc)
 ·rcases (hG k).1 hk with hk | hk
  ·exact Nat.lt_of_lt_of_le (h.lt k hk) ht.size
  ·rw [hk]; exact Nat.lt_of_lt_of_le hl ht.size
theorem Mem.newSpot {n:Qm.St} {s:Sp} (h:Mem w P M1 M2 T C F) (hm:SMap w' M1 (Go.Proofs.YthfhefdfehlbkaaGreat.spots T ++ [(n,spV s)])) (ht:Turns (fun k=>k=M1) w w'):Mem w' P M1 M2 (put T n s) C F :=
 ⟨h.at_.block (ht.block _ (h.lt _ h.fP) h.ne.1),by unfold Go.Proofs.YthfhefdfehlbkaaGreat.spots put at *; rw [List.map_append]; exact hm,h.below.turns ht fun e=>h.ne.2.2 e.symm,fun c hc=>(h.inner c hc).turns ht (h.kne c hc).2.1,h.fP,h.f1,h.f2,h.fK,h.ne,h.kne,h.knd,
  fun k hk=>Nat.lt_of_lt_of_le (h.lt k hk) ht.size⟩
end
def Laid (P M1 M2:Nat) (T:Tr) (F:Nat→Prop) (n:Qm.St) (s:Sp) (w:World) (e:Ending) (w':World):Prop :=
 e=.returned (.tuple #[])∧∃ C',Lay w' P M1 M2 (put T n s) C' (fun k=>F k∨(w.heap.size≤k∧k<w'.heap.size))∧Turns F w w'
theorem map_eq_none (w:World):Sem.run Tryz.prog (binOp BinOp.eql 242 (Value.map none) (Value.map none)) w=.ok (.bool true) w:=by kernel_rfl
theorem map_eq_some (w:World) (M:Nat):Sem.run Tryz.prog (binOp BinOp.eql 242 (Value.map (some M)) (Value.map none)) w=.ok (.bool false) w:=by kernel_rfl
theorem lay_any {P M1 M2:Nat} {T:Tr} {C:List Kid} {F:Nat→Prop} (n:Qm.St) (s:Sp) (w:World) (h:Lay w P M1 M2 T C F) (hn:StWf n) (hs:StWf s.1) (hno:Tm.look T n=none) :
  Calls Tryz.prog 161 #[.pointer (some ⟨P,0,none⟩),snV n,spV s] w (Laid P M1 M2 T F n s w):=by
 have h1:∀ (w:World) (o:Obj),Below w.heap.size w (w.alloc o):=fun w o=>(Below.refl _ _).alloc (Nat.le_refl _) _
 have hb:=(h1 w (.cells #[.int .i64 n.1,.int .i64 n.2] 35)).trans ((h1 (w.alloc (.cells #[.int .i64 n.1,.int .i64 n.2] 35)) (.cells (spA s) 106)).mono (by simp))
 have HB0:=Hi ((AgAt.new w #[.int .i64 n.1,.int .i64 n.2] 35).kept (h1 _ (.cells (spA s) 106)))
 have HB1:=Hi (show AgAt ((w.alloc (.cells #[.int .i64 n.1,.int .i64 n.2] 35)).alloc (.cells (spA s) 106)) (w.heap.size+1) (spA s) from by
  have:=AgAt.new (w.alloc (.cells #[.int .i64 n.1,.int .i64 n.2] 35)) (spA s) 106
  rw [show (w.alloc (.cells #[.int .i64 n.1,.int .i64 n.2] 35)).heap.size=w.heap.size+1 from by simp] at this
  exact this)
 have HZW:=Hi (show w.heap.size+2≤((w.alloc (.cells #[.int .i64 n.1,.int .i64 n.2] 35)).alloc (.cells (spA s) 106)).heap.size from by simp)
 have HLT:=Hi h.lt
 have HLAY:=Hi h
 have HFM:=Hi h.f1
 have HM:=Hi (h.toMem.kept hb)
 have HT:=Hi (Turns.of_below (F:=F) hb)
 have HWN:=Hi hn
 have HWS:=Hi hs
 have HNS:=Hi hno
 obtain ⟨ko,hko⟩:∃ k,k=kidOf C s.1:=⟨_,rfl⟩
 have HKO:=Hi hko
 clear h hb hn hs hno h1 hko
 cases ko with
 | none =>
  have HEQ:=Hi map_eq_none
  have HKN:=Hi HKO.out.symm
  have HNO:=Hi (show lk (belows C) s.1=none from by
   rw [lk_none]
   intro e he hh
   obtain ⟨c,hc,rfl⟩:=List.mem_map.1 he
   exact kidOf_none HKN.out c hc hh)
  go_enter Tryz.func161,Tryz.ntmps161
  go_upto_region 1 with fail
  generalize (w.alloc (.cells #[.int .i64 n.1,.int .i64 n.2] 35)).alloc (.cells (spA s) 106)=w1 at *
  have hbd:=Below.drew (Below.refl w1.heap.size w1)
  replace HM:=Hi (HM.out.kept hbd)
  replace HB0:=Hi (AgAt.kept HB0.out hbd)
  replace HB1:=Hi (AgAt.kept HB1.out hbd)
  replace HT:=Hi (HT.out.trans (Turns.of_below hbd))
  refine wp_region_held_drew (S:=fun W=>Below w1.drew.heap.size w1.drew W) (by kernel_rfl) (Below.refl _ _) (fun hS=>?_)
  clear hbd
  replace HZW:=Hi (show w.heap.size+2≤w1.drew.heap.size from HZW.out)
  generalize w1.drew=w1 at *
  refine tX 0 rfl hS ?_
  refine tX 1 rfl hS ?_
  refine tX 2 rfl hS ?_
  refine tK 3 (v:=?_) rfl ?_ hS ?_
  rotate_left
  ·intro W hSW
   have y1:=(HM.out.kept hSW).cell1
   go_simp
   all_goals with_reducible rfl
  go_simp
  refine tX 4 rfl hS ?_
  go_simp
  refine tK 5 (v:=snV s.1) rfl (fun W hSW=>exec_load_part stT rfl rfl [.int .i64 s.1.1,.int .i64 s.1.2] rfl (AgAt.kept HB1.out hSW) spPar) hS ?_
  go_simp
  refine tK 6 (v:=.map (none)) rfl (fun W hSW=>exec_lookup rfl rfl rfl (by rw [HKO.out]; exact (HM.out.kept hSW).lookB _ HWS.out)) hS ?_
  refine tK 7 (v:=?_) rfl ?_ hS ?_
  rotate_left
  ·intro W hSW
   have hne:=HEQ.out W
   go_simp
   all_goals with_reducible rfl
  go_simp
  refine wpAnyH_done (by kernel_rfl) ?_ _
  go_simp
  clear hS
  go_upto_region 2 with fail
  have hbd:=Below.drew (Below.refl w1.heap.size w1)
  replace HM:=Hi (HM.out.kept hbd)
  replace HB0:=Hi (AgAt.kept HB0.out hbd)
  replace HB1:=Hi (AgAt.kept HB1.out hbd)
  replace HT:=Hi (HT.out.trans (Turns.of_below hbd))
  refine wp_region_held_drew (S:=fun W=>AgAt W P #[.map (some M1),.map (some M2)]∧AgAt W (w.heap.size+1) (spA s)) (by kernel_rfl) ⟨HM.out.at_,HB1.out⟩ (fun hS=>?_)
  clear hbd
  have HZD:=Hi (show w.heap.size+2≤w1.drew.heap.size from HZW.out)
  have HFN:=Hi (show ¬ F w1.drew.heap.size from fun h=>by have:=HM.out.lt _ h; omega)
  clear HZW
  generalize w1.drew=wd at *
  refine tX 0 rfl hS ?_
  refine tX 1 rfl hS ?_
  refine tX 2 rfl hS ?_
  refine tK 3 (v:=?_) rfl ?_ hS ?_
  rotate_left
  ·intro W hSW
   have y1:W.cell? ⟨P,1,none⟩=some (.map (some M2)):=by rw [AgAt.cell hSW.1 1]; rfl
   go_simp
   all_goals with_reducible rfl
  go_simp
  refine tX 4 rfl hS ?_
  go_simp
  refine tK 5 (v:=snV s.1) rfl (fun W hSW=>exec_load_part stT rfl rfl [.int .i64 s.1.1,.int .i64 s.1.2] rfl (hSW.2) spPar) hS ?_
  go_simp
  refine rD 6 rfl (fun K hK=>?_)
  have hmm:=@run_makeMap Tryz.prog
  go_simp
  have hba:=(Below.refl wd.heap.size wd).alloc (Nat.le_refl _) (.map #[] 0)
  replace HM:=Hi (HM.out.kept hba)
  replace HB0:=Hi (AgAt.kept HB0.out hba)
  replace HB1:=Hi (AgAt.kept HB1.out hba)
  replace HT:=Hi (HT.out.trans (Turns.of_below hba))
  have HNM:=Hi (SMap.made wd)
  have HZM:=Hi (show wd.heap.size+1=(wd.alloc (.map #[] 0)).heap.size from by simp)
  refine hK.out _ _ ⟨AgAt.kept hS.1 hba,AgAt.kept hS.2 hba⟩ (fun hS=>?_)
  clear hK K hba hmm
  generalize wd.alloc (.map #[] 0)=we at *
  refine rD 7 rfl (fun K hK=>?_)
  obtain ⟨w6,hrun,hm6,ht6,hz6⟩:=HM.out.below.upd mtBelow s.1 (.map (some wd.heap.size)) HWS.out HNO.out
  have HG:=Hi (HM.out.newKid (G:=fun k=>F k∨k=wd.heap.size) HNM.out hm6 ht6 hz6 (HFN.out) (by have:=HZM.out; omega))
  have HNE:=Hi (show P≠M2∧w.heap.size≠M2∧w.heap.size+1≠M2 from ⟨HM.out.ne.2.1,by have:=HLT.out _ HM.out.f2; omega,by have:=HLT.out _ HM.out.f2; omega⟩)
  replace HB0:=Hi (AgAt.block HB0.out (ht6.block _ (AgAt.lt HB0.out) HNE.out.2.1))
  replace HB1:=Hi (AgAt.block HB1.out (ht6.block _ (AgAt.lt HB1.out) HNE.out.2.2))
  replace HT:=Hi (HT.out.trans (ht6.mono fun k _ hk=>Or.inl (by subst hk; exact HM.out.f2)))
  refine step_of (by kernel_rfl) ?_
  refine wp_mapUpdate _ _ _ _ rfl (.map (some M2)) (snV s.1) (.map (some wd.heap.size)) rfl rfl rfl w6 hrun ?_
  refine hK.out _ _ ⟨AgAt.block hS.1 (ht6.block _ (AgAt.lt hS.1) HNE.out.1),AgAt.block hS.2 (ht6.block _ (AgAt.lt hS.2) HNE.out.2.2)⟩ (fun hS=>?_)
  clear hK K hrun hm6 ht6 hz6 HNE HM HNM
  refine wpAnyH_done (by kernel_rfl) ?_ _
  go_simp
  clear hS
  obtain ⟨C2,hC2⟩:∃ C2,C2=C ++ [(⟨s.1,wd.heap.size,[]⟩:Kid)]:=⟨_,rfl⟩
  have HKO:=Hi (show kidOf C2 s.1=some wd.heap.size from by rw [hC2]; exact kidOf_new HKN.out)
  have HH:=Hi (show Half T C2 s.1 from by rw [hC2]; exact HLAY.out.half_new HKN.out _)
  have HM:=HG
  rw [← hC2] at HM
  have HFF:=Hi (show ∀ k,(F k∨k=wd.heap.size)→F k∨w.heap.size+2≤k from fun k hk=>hk.imp id fun h=>by have:=HZD.out; omega)
  clear HG hC2 HFN HKN HLAY HNO HZM HZD
  generalize wd.heap.size=kb at *
  obtain ⟨kc,hk1,hk2,hk3⟩:=kidOf_some HKO.out
  have HKI:=Hi (show kc ∈ C2∧kc.b=kb∧SMap w6.drew kb (nodesOf kc.l) from ⟨hk1,hk3,by have:=HM.out.inner kc hk1; rw [hk3] at this; exact this.below (Below.drew (Below.refl _ _))⟩)
  have HNN:=Hi (show lk (nodesOf kc.l) n=none from by
   rw [lk_nodes,if_neg]
   intro h
   obtain ⟨s',h1,-⟩:=Tm.kids_mem.1 (((HH.out.1 kc hk1).2 n).1 h)
   exact Tm.look_none.1 HNS.out _ h1 rfl)
  have HTI:=Hi (HH.out.put HNS.out (s:=s) ⟨kc,hk1,hk2⟩)
  rw [← hk2] at HTI
  have HCP:=Hi hk2
  clear hk1 hk2 hk3
  go_upto_region 3 with fail
  replace HM:=Hi (HM.out.kept (Below.drew (Below.refl w6.heap.size w6)))
  replace HB0:=Hi (AgAt.kept HB0.out (Below.drew (Below.refl w6.heap.size w6)))
  replace HB1:=Hi (AgAt.kept HB1.out (Below.drew (Below.refl w6.heap.size w6)))
  replace HT:=Hi (HT.out.trans (Turns.of_below (Below.drew (Below.refl w6.heap.size w6))))
  refine wp_region_held_drew (S:=fun W=>AgAt W P #[.map (some M1),.map (some M2)]∧AgAt W w.heap.size #[.int .i64 n.1,.int .i64 n.2]∧AgAt W (w.heap.size+1) (spA s)∧SMap W M2 (belows C2)) (by kernel_rfl) ⟨HM.out.at_,HB0.out,HB1.out,HM.out.below⟩ (fun hS=>?_)
  generalize w6.drew=wb at *
  refine tX 0 rfl hS ?_
  refine tX 1 rfl hS ?_
  refine tX 2 rfl hS ?_
  refine tK 3 (v:=?_) rfl ?_ hS ?_
  rotate_left
  ·intro W hSW
   have y1:W.cell? ⟨P,1,none⟩=some (.map (some M2)):=by rw [AgAt.cell hSW.1 1]; rfl
   go_simp
   all_goals with_reducible rfl
  go_simp
  refine tX 4 rfl hS ?_
  go_simp
  refine tK 5 (v:=snV s.1) rfl (fun W hSW=>exec_load_part stT rfl rfl [.int .i64 s.1.1,.int .i64 s.1.2] rfl (hSW.2.2.1) spPar) hS ?_
  go_simp
  refine tK 6 (v:=.map (some kb)) rfl (fun W hSW=>exec_lookup rfl rfl rfl ((hSW.2.2.2.look mtBelow s.1 HWS.out).trans (by rw [lk_belows,HKO.out]))) hS ?_
  go_simp
  refine tK 7 (v:=snV n) rfl (fun W hSW=>exec_load_ag stT rfl rfl rfl hSW.2.1) hS ?_
  refine tX 8 rfl hS ?_
  go_simp
  refine rD 9 rfl (fun K hK=>?_)
  obtain ⟨w7,hrun,hm7,ht7,hz7⟩:=HKI.out.2.2.upd mtSet n (.agg #[]) HWN.out HNN.out
  have HG:=Hi (HM.out.setKid (f:=fun l=>l ++ [n]) HKI.out.1 HKI.out.2.1 (by unfold nodesOf; rw [List.map_append]; exact hm7) ht7)
  have HNE:=Hi (show P≠kb∧w.heap.size≠kb∧w.heap.size+1≠kb∧M2≠kb from by
   have h1:=HM.out.kne _ HKI.out.1
   rw [HKI.out.2.1] at h1
   have h2:=HFF.out kb (by have:=HM.out.fK _ HKI.out.1; rw [HKI.out.2.1] at this; exact this)
   refine ⟨fun h=>h1.1 h.symm,?_,?_,fun h=>h1.2.2 h.symm⟩
   ·rcases h2 with h2 | h2
    ·have:=HLT.out _ h2; omega
    ·omega
   ·rcases h2 with h2 | h2
    ·have:=HLT.out _ h2; omega
    ·omega)
  replace HB0:=Hi (AgAt.block HB0.out (ht7.block _ (AgAt.lt HB0.out) HNE.out.2.1))
  replace HB1:=Hi (AgAt.block HB1.out (ht7.block _ (AgAt.lt HB1.out) HNE.out.2.2.1))
  replace HT:=Hi (HT.out.trans (ht7.mono fun k _ hk=>by
   subst hk
   rcases HFF.out k (by have:=HM.out.fK _ HKI.out.1; rw [HKI.out.2.1] at this; exact this) with h | h
   ·exact Or.inl h
   ·exact Or.inr (by omega)))
  refine step_of (by kernel_rfl) ?_
  refine wp_mapUpdate _ _ _ _ rfl (.map (some kb)) (snV n) (.agg #[]) rfl rfl rfl w7 hrun ?_
  refine hK.out _ _ ⟨AgAt.block hS.1 (ht7.block _ (AgAt.lt hS.1) HNE.out.1),AgAt.block hS.2.1 (ht7.block _ (AgAt.lt hS.2.1) HNE.out.2.1),AgAt.block hS.2.2.1 (ht7.block _ (AgAt.lt hS.2.2.1) HNE.out.2.2.1),hS.2.2.2.block (ht7.block _ hS.2.2.2.lt HNE.out.2.2.2)⟩ (fun hS=>?_)
  clear hK K hrun hm7 ht7 hz7 HNE HM HKI HNN HKO
  refine wpAnyH_done (by kernel_rfl) ?_ _
  go_simp
  clear hS
  go_upto_region 4 with fail
  have hbd:=Below.drew (Below.refl w7.heap.size w7)
  replace HG:=Hi (HG.out.kept hbd)
  replace HB0:=Hi (AgAt.kept HB0.out hbd)
  replace HB1:=Hi (AgAt.kept HB1.out hbd)
  replace HT:=Hi (HT.out.trans (Turns.of_below hbd))
  have HF1:=Hi HFM.out
  refine wp_region_held_drew (S:=fun W=>AgAt W P #[.map (some M1),.map (some M2)]∧AgAt W w.heap.size #[.int .i64 n.1,.int .i64 n.2]∧AgAt W (w.heap.size+1) (spA s)) (by kernel_rfl) ⟨HG.out.at_,HB0.out,HB1.out⟩ (fun hS=>?_)
  clear hbd
  generalize w7.drew=wc at *
  refine tX 0 rfl hS ?_
  refine tX 1 rfl hS ?_
  refine tX 2 rfl hS ?_
  refine tK 3 (v:=?_) rfl ?_ hS ?_
  rotate_left
  ·intro W hSW
   have y0:W.cell? ⟨P,0,none⟩=some (.map (some M1)):=by rw [AgAt.cell hSW.1 0]; rfl
   go_simp
   all_goals with_reducible rfl
  go_simp
  refine tK 4 (v:=snV n) rfl (fun W hSW=>exec_load_ag stT rfl rfl rfl hSW.2.1) hS ?_
  go_simp
  refine tK 5 (v:=spV s) rfl (fun W hSW=>exec_load_ag spT rfl rfl rfl hSW.2.2) hS ?_
  go_simp
  refine rD 6 rfl (fun K hK=>?_)
  obtain ⟨w8,hrun,hm8,ht8,hz8⟩:=HG.out.spots.upd mtSpots n (spV s) HWN.out (by rw [lk_spots,HNS.out]; rfl)
  have HJ:=Hi (HG.out.newSpot hm8 ht8)
  have HNE:=Hi (show P≠M1∧w.heap.size≠M1∧w.heap.size+1≠M1 from ⟨HG.out.ne.1,by have:=HLT.out _ HF1.out; omega,by have:=HLT.out _ HF1.out; omega⟩)
  replace HT:=Hi (HT.out.trans (ht8.mono fun k _ hk=>Or.inl (by subst hk; exact HF1.out)))
  refine step_of (by kernel_rfl) ?_
  refine wp_mapUpdate _ _ _ _ rfl (.map (some M1)) (snV n) (spV s) rfl rfl rfl w8 hrun ?_
  refine hK.out _ _ ⟨AgAt.block hS.1 (ht8.block _ (AgAt.lt hS.1) HNE.out.1),AgAt.block hS.2.1 (ht8.block _ (AgAt.lt hS.2.1) HNE.out.2.1),AgAt.block hS.2.2 (ht8.block _ (AgAt.lt hS.2.2) HNE.out.2.2)⟩ (fun hS=>?_)
  clear hK K hrun hm8 ht8 hz8 HNE HG
  refine wpAnyH_done (by kernel_rfl) ?_ _
  go_simp
  have HE:=Hi (show Laid P M1 M2 T F n s w (.returned (.tuple #[])) w8 from ⟨rfl,_,⟨HJ.out.more (fun k hk=>(HFF.out k hk).imp id fun h=>⟨by omega,HJ.out.lt k hk⟩) (fun k hk=>hk.elim (fun h=>Nat.lt_of_lt_of_le (HLT.out k h) HT.out.size) fun h=>h.2),HTI.out.1,HTI.out.2⟩,HT.out⟩)
  clear hS HJ HTI HT HH
  go_wp2
  go_end0
  exact HE.out
 | some kb =>
  have HEQ:=Hi (fun W=>map_eq_some W kb)
  go_enter Tryz.func161,Tryz.ntmps161
  go_upto_region 1 with fail
  generalize (w.alloc (.cells #[.int .i64 n.1,.int .i64 n.2] 35)).alloc (.cells (spA s) 106)=w1 at *
  have hbd:=Below.drew (Below.refl w1.heap.size w1)
  replace HM:=Hi (HM.out.kept hbd)
  replace HB0:=Hi (AgAt.kept HB0.out hbd)
  replace HB1:=Hi (AgAt.kept HB1.out hbd)
  replace HT:=Hi (HT.out.trans (Turns.of_below hbd))
  refine wp_region_held_drew (S:=fun W=>Below w1.drew.heap.size w1.drew W) (by kernel_rfl) (Below.refl _ _) (fun hS=>?_)
  clear hbd
  generalize w1.drew=w1 at *
  refine tX 0 rfl hS ?_
  refine tX 1 rfl hS ?_
  refine tX 2 rfl hS ?_
  refine tK 3 (v:=?_) rfl ?_ hS ?_
  rotate_left
  ·intro W hSW
   have y1:=(HM.out.kept hSW).cell1
   go_simp
   all_goals with_reducible rfl
  go_simp
  refine tX 4 rfl hS ?_
  go_simp
  refine tK 5 (v:=snV s.1) rfl (fun W hSW=>exec_load_part stT rfl rfl [.int .i64 s.1.1,.int .i64 s.1.2] rfl (AgAt.kept HB1.out hSW) spPar) hS ?_
  go_simp
  refine tK 6 (v:=.map (some kb)) rfl (fun W hSW=>exec_lookup rfl rfl rfl (by rw [HKO.out]; exact (HM.out.kept hSW).lookB _ HWS.out)) hS ?_
  refine tK 7 (v:=?_) rfl ?_ hS ?_
  rotate_left
  ·intro W hSW
   have hne:=HEQ.out W
   go_simp
   all_goals with_reducible rfl
  go_simp
  refine wpAnyH_done (by kernel_rfl) ?_ _
  go_simp
  clear hS
  obtain ⟨C2,hC2⟩:∃ C2,C2=C:=⟨_,rfl⟩
  replace HKO:=Hi (show kidOf C2 s.1=some kb from by rw [hC2]; exact HKO.out.symm)
  have HH:=Hi (show Half T C2 s.1 from by rw [hC2]; exact HLAY.out.half_old _)
  rw [← hC2] at HM
  have HFF:=Hi (show ∀ k,F k→F k∨w.heap.size+2≤k from fun k hk=>Or.inl hk)
  clear hC2 HLAY HEQ
  obtain ⟨kc,hk1,hk2,hk3⟩:=kidOf_some HKO.out
  have HKI:=Hi (show kc ∈ C2∧kc.b=kb∧SMap w1.drew kb (nodesOf kc.l) from ⟨hk1,hk3,by have:=HM.out.inner kc hk1; rw [hk3] at this; exact this.below (Below.drew (Below.refl _ _))⟩)
  have HNN:=Hi (show lk (nodesOf kc.l) n=none from by
   rw [lk_nodes,if_neg]
   intro h
   obtain ⟨s',h1,-⟩:=Tm.kids_mem.1 (((HH.out.1 kc hk1).2 n).1 h)
   exact Tm.look_none.1 HNS.out _ h1 rfl)
  have HTI:=Hi (HH.out.put HNS.out (s:=s) ⟨kc,hk1,hk2⟩)
  rw [← hk2] at HTI
  have HCP:=Hi hk2
  clear hk1 hk2 hk3
  go_upto_region 3 with fail
  replace HM:=Hi (HM.out.kept (Below.drew (Below.refl w1.heap.size w1)))
  replace HB0:=Hi (AgAt.kept HB0.out (Below.drew (Below.refl w1.heap.size w1)))
  replace HB1:=Hi (AgAt.kept HB1.out (Below.drew (Below.refl w1.heap.size w1)))
  replace HT:=Hi (HT.out.trans (Turns.of_below (Below.drew (Below.refl w1.heap.size w1))))
  refine wp_region_held_drew (S:=fun W=>AgAt W P #[.map (some M1),.map (some M2)]∧AgAt W w.heap.size #[.int .i64 n.1,.int .i64 n.2]∧AgAt W (w.heap.size+1) (spA s)∧SMap W M2 (belows C2)) (by kernel_rfl) ⟨HM.out.at_,HB0.out,HB1.out,HM.out.below⟩ (fun hS=>?_)
  generalize w1.drew=wb at *
  refine tX 0 rfl hS ?_
  refine tX 1 rfl hS ?_
  refine tX 2 rfl hS ?_
  refine tK 3 (v:=?_) rfl ?_ hS ?_
  rotate_left
  ·intro W hSW
   have y1:W.cell? ⟨P,1,none⟩=some (.map (some M2)):=by rw [AgAt.cell hSW.1 1]; rfl
   go_simp
   all_goals with_reducible rfl
  go_simp
  refine tX 4 rfl hS ?_
  go_simp
  refine tK 5 (v:=snV s.1) rfl (fun W hSW=>exec_load_part stT rfl rfl [.int .i64 s.1.1,.int .i64 s.1.2] rfl (hSW.2.2.1) spPar) hS ?_
  go_simp
  refine tK 6 (v:=.map (some kb)) rfl (fun W hSW=>exec_lookup rfl rfl rfl ((hSW.2.2.2.look mtBelow s.1 HWS.out).trans (by rw [lk_belows,HKO.out]))) hS ?_
  go_simp
  refine tK 7 (v:=snV n) rfl (fun W hSW=>exec_load_ag stT rfl rfl rfl hSW.2.1) hS ?_
  refine tX 8 rfl hS ?_
  go_simp
  refine rD 9 rfl (fun K hK=>?_)
  obtain ⟨w7,hrun,hm7,ht7,hz7⟩:=HKI.out.2.2.upd mtSet n (.agg #[]) HWN.out HNN.out
  have HG:=Hi (HM.out.setKid (f:=fun l=>l ++ [n]) HKI.out.1 HKI.out.2.1 (by unfold nodesOf; rw [List.map_append]; exact hm7) ht7)
  have HNE:=Hi (show P≠kb∧w.heap.size≠kb∧w.heap.size+1≠kb∧M2≠kb from by
   have h1:=HM.out.kne _ HKI.out.1
   rw [HKI.out.2.1] at h1
   have h2:=HFF.out kb (by have:=HM.out.fK _ HKI.out.1; rw [HKI.out.2.1] at this; exact this)
   refine ⟨fun h=>h1.1 h.symm,?_,?_,fun h=>h1.2.2 h.symm⟩
   ·rcases h2 with h2 | h2
    ·have:=HLT.out _ h2; omega
    ·omega
   ·rcases h2 with h2 | h2
    ·have:=HLT.out _ h2; omega
    ·omega)
  replace HB0:=Hi (AgAt.block HB0.out (ht7.block _ (AgAt.lt HB0.out) HNE.out.2.1))
  replace HB1:=Hi (AgAt.block HB1.out (ht7.block _ (AgAt.lt HB1.out) HNE.out.2.2.1))
  replace HT:=Hi (HT.out.trans (ht7.mono fun k _ hk=>by
   subst hk
   rcases HFF.out k (by have:=HM.out.fK _ HKI.out.1; rw [HKI.out.2.1] at this; exact this) with h | h
   ·exact Or.inl h
   ·exact Or.inr (by omega)))
  refine step_of (by kernel_rfl) ?_
  refine wp_mapUpdate _ _ _ _ rfl (.map (some kb)) (snV n) (.agg #[]) rfl rfl rfl w7 hrun ?_
  refine hK.out _ _ ⟨AgAt.block hS.1 (ht7.block _ (AgAt.lt hS.1) HNE.out.1),AgAt.block hS.2.1 (ht7.block _ (AgAt.lt hS.2.1) HNE.out.2.1),AgAt.block hS.2.2.1 (ht7.block _ (AgAt.lt hS.2.2.1) HNE.out.2.2.1),hS.2.2.2.block (ht7.block _ hS.2.2.2.lt HNE.out.2.2.2)⟩ (fun hS=>?_)
  clear hK K hrun hm7 ht7 hz7 HNE HM HKI HNN HKO
  refine wpAnyH_done (by kernel_rfl) ?_ _
  go_simp
  clear hS
  go_upto_region 4 with fail
  have hbd:=Below.drew (Below.refl w7.heap.size w7)
  replace HG:=Hi (HG.out.kept hbd)
  replace HB0:=Hi (AgAt.kept HB0.out hbd)
  replace HB1:=Hi (AgAt.kept HB1.out hbd)
  replace HT:=Hi (HT.out.trans (Turns.of_below hbd))
  have HF1:=Hi HFM.out
  refine wp_region_held_drew (S:=fun W=>AgAt W P #[.map (some M1),.map (some M2)]∧AgAt W w.heap.size #[.int .i64 n.1,.int .i64 n.2]∧AgAt W (w.heap.size+1) (spA s)) (by kernel_rfl) ⟨HG.out.at_,HB0.out,HB1.out⟩ (fun hS=>?_)
  clear hbd
  generalize w7.drew=wc at *
  refine tX 0 rfl hS ?_
  refine tX 1 rfl hS ?_
  refine tX 2 rfl hS ?_
  refine tK 3 (v:=?_) rfl ?_ hS ?_
  rotate_left
  ·intro W hSW
   have y0:W.cell? ⟨P,0,none⟩=some (.map (some M1)):=by rw [AgAt.cell hSW.1 0]; rfl
   go_simp
   all_goals with_reducible rfl
  go_simp
  refine tK 4 (v:=snV n) rfl (fun W hSW=>exec_load_ag stT rfl rfl rfl hSW.2.1) hS ?_
  go_simp
  refine tK 5 (v:=spV s) rfl (fun W hSW=>exec_load_ag spT rfl rfl rfl hSW.2.2) hS ?_
  go_simp
  refine rD 6 rfl (fun K hK=>?_)
  obtain ⟨w8,hrun,hm8,ht8,hz8⟩:=HG.out.spots.upd mtSpots n (spV s) HWN.out (by rw [lk_spots,HNS.out]; rfl)
  have HJ:=Hi (HG.out.newSpot hm8 ht8)
  have HNE:=Hi (show P≠M1∧w.heap.size≠M1∧w.heap.size+1≠M1 from ⟨HG.out.ne.1,by have:=HLT.out _ HF1.out; omega,by have:=HLT.out _ HF1.out; omega⟩)
  replace HT:=Hi (HT.out.trans (ht8.mono fun k _ hk=>Or.inl (by subst hk; exact HF1.out)))
  refine step_of (by kernel_rfl) ?_
  refine wp_mapUpdate _ _ _ _ rfl (.map (some M1)) (snV n) (spV s) rfl rfl rfl w8 hrun ?_
  refine hK.out _ _ ⟨AgAt.block hS.1 (ht8.block _ (AgAt.lt hS.1) HNE.out.1),AgAt.block hS.2.1 (ht8.block _ (AgAt.lt hS.2.1) HNE.out.2.1),AgAt.block hS.2.2 (ht8.block _ (AgAt.lt hS.2.2) HNE.out.2.2)⟩ (fun hS=>?_)
  clear hK K hrun hm8 ht8 hz8 HNE HG
  refine wpAnyH_done (by kernel_rfl) ?_ _
  go_simp
  have HE:=Hi (show Laid P M1 M2 T F n s w (.returned (.tuple #[])) w8 from ⟨rfl,_,⟨HJ.out.more (fun k hk=>(HFF.out k hk).imp id fun h=>⟨by omega,HJ.out.lt k hk⟩) (fun k hk=>hk.elim (fun h=>Nat.lt_of_lt_of_le (HLT.out k h) HT.out.size) fun h=>h.2),HTI.out.1,HTI.out.2⟩,HT.out⟩)
  clear hS HJ HTI HT HH
  go_wp2
  go_end0
  exact HE.out
end Go.Proofs.YthfhefdfehlbkaaGreat
