/-
  A RANGE OVER A FUNCTION, BY FOOTPRINTS: the rounds turn what is theirs (Fp) and what is new, the function that is ranged over turns anything else that is its own, cells too.
  No conditions.
  The way up from a node, as a function that is ranged over.
  No conditions.
  ROWS COLLECTED out of a function that is ranged over: slices.AppendSeq, slices.Collect.
  No conditions but sizes.
-/
import Derived.Test.YthfhefdfehlbkaaGreatSh
import Derived.Test.YthfhefdfehlbkaaGreatK11
import Derived.RangeFuncNested
import Derived.RangeFuncCalls
import Derived.RangeFuncLeaves
import Derived.RangeFuncOne
import Derived.OwnWalkIn
import Derived.TacticsInMore
import Derived.Test.YthfhefdfehlbkaaGreatK13
import Derived.LoopIn
import Derived.LoopNIn
import Derived.Maps.AppendAt
set_option maxRecDepth 100000
set_option maxHeartbeats 8000000
namespace Go.Proofs.YthfhefdfehlbkaaGreat
open Go.RowKit
def Grows (F F':Nat→Prop) (W:World):Prop:=∀ k,F' k→F k∨W.heap.size≤k
theorem Grows.refl (F:Nat→Prop) (W:World):Grows F F W:=fun _ h=>Or.inl h
def SeqFp {α:Type} (P:Program) (gf:Nat) (lb:Array Value) (enc:α→Value) (S Sp:List α→Prop) (F0:Nat→Prop) (w:World):Prop :=
 ∀ (l:Nat) (J Jx:List α→(Nat→Prop)→World→Prop) (W:World) (Fp:Nat→Prop),Below w.heap.size w W→(∀ k,k<w.heap.size→Fp k→F0 k) →
  (∀ pre Fp W W',J pre Fp W→Turns (fun k=>¬ Fp k) W W'→J pre Fp W') →
  (∀ pre Fp W,J pre Fp W→∀ k,Fp k→k<W.heap.size) →
  (∀ pre x Fp W1,J pre Fp W1→Sp (pre ++ [x])→YieldAt Fence.wide 0 P l #[enc x] W1 fun e W' =>
   ∃ Fp',Turns Fp W1 W'∧Grows Fp Fp' W1∧((e=.returned (.bool true)∧J (pre ++ [x]) Fp' W')∨(e=.returned (.bool false)∧Jx (pre ++ [x]) Fp' W'))) →
  J [] Fp W →
  Calls P gf (#[.func (.yield l) #[] #[]] ++ lb) W fun e W'=>(∃ v,e=.returned v)∧∃ Fp',Turns (fun k=>Fp k∨W.heap.size≤k) W W'∧Grows Fp Fp' W∧((∃ xs,S xs∧J xs Fp' W')∨(∃ pre,Sp pre∧Jx pre Fp' W'))
theorem SeqFp.later {α:Type} {P:Program} {gf:Nat} {lb:Array Value} {enc:α→Value} {S Sp:List α→Prop} {F0:Nat→Prop} {w w':World} (h:SeqFp P gf lb enc S Sp F0 w) (hb:Below w.heap.size w w'):SeqFp P gf lb enc S Sp F0 w' :=
 fun l J Jx W Fp hW hF=>h l J Jx W Fp (hb.trans (hW.mono hb.size)) fun k hk=>hF k (Nat.lt_of_lt_of_le hk hb.size)
def fpPost {α:Type} (I:List α→(Nat→Prop)→World→Prop) (Ix:Code→List α→(Nat→Prop)→World→Prop) (xs:List α) (Fp:Nat→Prop) (n:Nat) (W:World):Exit→Act→World→Prop
 | .normal,_,W'=>∃ Fp',Turns (fun k=>Fp k∨n≤k) W W'∧(∀ k,Fp' k→Fp k∨n≤k)∧I xs Fp' W'
 | .ret,_,W'=>∃ Fp',Turns (fun k=>Fp k∨n≤k) W W'∧(∀ k,Fp' k→Fp k∨n≤k)∧Ix .ret xs Fp' W'
 | .exit id,_,W'=>∃ Fp',Turns (fun k=>Fp k∨n≤k) W W'∧(∀ k,Fp' k→Fp k∨n≤k)∧Ix (.exit id) xs Fp' W'
 | .goto t,_,W'=>∃ Fp',Turns (fun k=>Fp k∨n≤k) W W'∧(∀ k,Fp' k→Fp k∨n≤k)∧Ix (.goto t) xs Fp' W'
 | .panic _,_,_=>False
 | .outgrown,_,_=>False
theorem putObj_turns (w:World) (r:Nat) (o:Obj):Turns (fun k=>k=r) w (w.putObj r o):=⟨rfl,rfl,rfl,by simp,fun _ _ hk=>World.putObj_heap_other hk⟩
theorem wp_rangeFunc_fp {P:Program} {α:Type} {g:Operand} {p:Tmp} {assign body:Code} {Q:Exit→Act→World→Prop} {a:Act} {w:World}
  {gf:Nat} {lb:Array Value} (hg:a.eval g=.func (.func gf) #[] lb) (eg:∀ args w,(callFunc gf args).run P w=.ok (.enter gf args) w)
  {enc:α→Value} {S Sp:List α→Prop} {F0:Nat→Prop} (hseq:SeqFp P gf lb enc S Sp F0 w)
  (I:List α→(Nat→Prop)→World→Prop) (Ix:Code→List α→(Nat→Prop)→World→Prop)
  (hI:∀ pre Fp W W',I pre Fp W→Turns (fun k=>¬ Fp k) W W'→I pre Fp W') (hIx:∀ c pre Fp W W',Ix c pre Fp W→Turns (fun k=>¬ Fp k) W W'→Ix c pre Fp W')
  (hlt:∀ pre Fp W,I pre Fp W→∀ k,Fp k→k<W.heap.size)
  {F:Nat→Prop} (hF:∀ k,F k→F0 k) (h0:I [] F w)
  (hround:∀ (l:Nat) (pre:List α) (x:α) (Fp:Nat→Prop) (W:World),I pre Fp W→Sp (pre ++ [x])→¬ Fp l→l<W.heap.size →
   assign.wpIn (Fence.wide.inRound l) 0 P (Exit.then (fun a₁ W₁=>Turns Fp W W₁∧∀ W₂,Turns (fun k=>k=l) W₁ W₂→W₂.heap.size=W₁.heap.size →
    body.wpIn (Fence.wide.inRound l) 0 P (fpPost I Ix (pre ++ [x]) Fp W.heap.size W₂) a₁ W₂) (fun _ _ _=>False)) { tmps:=a.tmps.setIfInBounds p (enc x),defers:=[] } W)
  (hdone:∀ (D:Nat) (xs:List α) (Fp:Nat→Prop) (W:World),S xs→I xs Fp W→Turns F w W→Grows F Fp w→W.heap[D]?=some (.deferred (some []))→w.heap.size≤D→¬ Fp D→Q .normal { a with defers:={ target:=.collected D,args:=#[] } :: a.defers } W)
  (hstop:∀ (D:Nat) (c:Code) (pre:List α) (Fp:Nat→Prop) (W:World),Sp pre→Ix c pre Fp W→Turns F w W→Grows F Fp w→W.heap[D]?=some (.deferred (some []))→w.heap.size≤D→¬ Fp D→c.wpIn Fence.wide 0 P Q { a with defers:={ target:=.collected D,args:=#[] } :: a.defers } W) :
  (Code.rangeFunc g #[p] assign body).wpIn Fence.wide 0 P Q a w:=by
 refine wpIn_rangeFunc ?_
 intro fn hfn
 have hFl:∀ k,F k→k<w.heap.size:=hlt _ _ _ h0
 obtain ⟨rec,hrec⟩:∃ rec:LoopState→Option Code→Loop,rec=fun st pe=>{ state:=st,pending:=pe,fn,tmps:=a.tmps,params:=#[p],assign,body,defers:=w.heap.size }:=⟨_,rfl⟩
 obtain ⟨W1,hW1⟩:∃ W1,(w.alloc (.deferred (some []))).alloc (.loop (rec .ready none))=W1:=⟨_,rfl⟩
 have hL1:W1.heap[w.heap.size+1]?=some (.loop (rec .ready none)):=by
  rw [← hW1]; have:=World.alloc_heap_new (w.alloc (.deferred (some []))) (.loop (rec .ready none)); rwa [World.size_alloc] at this
 have hK1:W1.heap[w.heap.size]?=some (.deferred (some [])):=by
  rw [← hW1]; exact (Below.heap_alloc _ _ _ (by simp)).trans (World.alloc_heap_new w _)
 have hb1:Below w.heap.size w W1:=by
  rw [← hW1]; exact ((Below.refl _ w).alloc (Nat.le_refl _) _).alloc (by simp) _
 have hI1:I [] F W1:=hI _ _ _ _ h0 (Turns.of_below hb1)
 have hz1:W1.heap.size=w.heap.size+2:=by rw [← hW1]; simp
 refine ⟨w.heap.size+1,[{ target:=.collected w.heap.size,args:=#[] }],W1,{ target:=.fn (.func gf) lb,args:=#[.func (.yield (w.heap.size+1)) #[] #[]] },W1,gf,
  #[.func (.yield (w.heap.size+1)) #[] #[]] ++ lb,W1,?_,?_,fun _ _=>trivial,?_,fun h=>(by simp [Fence.wide] at h),?_⟩
 ·rw [← hW1,hrec]; exact run_enterLoop_outer _ _ _ _ _
 ·simp only [resolve,hg]
  simp [go_sem]
 ·simp [invoke,go_sem,eg]
 ·have hnl:∀ {Fp:Nat→Prop},Grows F Fp W1→¬ Fp (w.heap.size+1):=fun hgr h=>by
   rcases hgr _ h with h | h
   ·have:=hFl _ h; omega
   ·omega
  have hnd:∀ {Fp:Nat→Prop},Grows F Fp W1→¬ Fp w.heap.size:=fun hgr h=>by
   rcases hgr _ h with h | h
   ·have:=hFl _ h; omega
   ·omega
  refine callsIn_wide.2 ((hseq (w.heap.size+1)
   (fun pre Fp' W=>∃ Fp,(∀ k,Fp' k↔Fp k∨k=w.heap.size+1∨k=w.heap.size)∧Grows F Fp W1∧I pre Fp W∧W.heap[w.heap.size+1]?=some (.loop (rec .ready none))∧W.heap[w.heap.size]?=some (.deferred (some [])))
   (fun pre Fp' W=>∃ Fp c,(∀ k,Fp' k↔Fp k∨k=w.heap.size+1∨k=w.heap.size)∧Grows F Fp W1∧Ix c pre Fp W∧W.heap[w.heap.size+1]?=some (.loop (rec .done (some c)))∧W.heap[w.heap.size]?=some (.deferred (some [])))
   W1 (fun k=>F k∨k=w.heap.size+1∨k=w.heap.size) hb1 ?_ ?_ ?_ ?_ ⟨F,fun _=>Iff.rfl,Grows.refl _ _,hI1,hL1,hK1⟩).mono ?_)
  ·rintro k hk (h | h | h)
   ·exact hF k h
   ·omega
   ·omega
  ·rintro pre Fp' W W' ⟨Fp,hfp,hgr,hi,hl,hd⟩ ht
   refine ⟨Fp,hfp,hgr,hI _ _ _ _ hi (ht.mono fun k _ hk h=>hk ((hfp k).2 (Or.inl h))),?_,?_⟩
   ·rw [ht.block _ (Array.getElem?_eq_some_iff.1 hl).1 (fun h=>h ((hfp _).2 (Or.inr (Or.inl rfl))))]; exact hl
   ·rw [ht.block _ (Array.getElem?_eq_some_iff.1 hd).1 (fun h=>h ((hfp _).2 (Or.inr (Or.inr rfl))))]; exact hd
  ·rintro pre Fp' W ⟨Fp,hfp,hgr,hi,hl,hd⟩ k hk
   rcases (hfp k).1 hk with h | h | h
   ·exact hlt _ _ _ hi k h
   ·rw [h]; exact (Array.getElem?_eq_some_iff.1 hl).1
   ·rw [h]; exact (Array.getElem?_eq_some_iff.1 hd).1
  ·rintro pre x Fp' W ⟨Fp,hfp,hgr,hi,hl,hd⟩ hsp
   have hll:w.heap.size+1<W.heap.size:=(Array.getElem?_eq_some_iff.1 hl).1
   have hdl:w.heap.size<W.heap.size:=by omega
   have hy:=run_yield (P:=P) (args:=#[enc x]) hl (by rw [hrec]; rfl)
   rw [hrec] at hy
   refine ⟨fn,_,assign,body,hy,roundIn_of_wpIn hfn ?_⟩
   have hr:=hround (w.heap.size+1) pre x Fp W hi hsp (hnl hgr) hll
   have htm:((#[p]:Array Tmp).zip #[enc x]).foldl (fun tmps (y:Tmp × Value)=>tmps.setIfInBounds y.1 y.2) a.tmps=a.tmps.setIfInBounds p (enc x):=by simp
   rw [← htm] at hr
   refine wpIn_mono hr ?_
   rintro e a1 w1 he
   cases e with
   | normal =>
    obtain ⟨ht1,hbody⟩:=he
    have hl1:w1.heap[w.heap.size+1]?=some (.loop (rec .ready none)):=by rw [ht1.block _ hll (hnl hgr)]; exact hl
    have hd1:w1.heap[w.heap.size]?=some (.deferred (some [])):=by rw [ht1.block _ hdl (hnd hgr)]; exact hd
    have hll1:=(Array.getElem?_eq_some_iff.1 hl1).1
    refine ⟨_,run_beginRound hl1 (by rw [hrec]),?_⟩
    have hl2:(w1.putObj (w.heap.size+1) (.loop { rec .ready none with state:=.busy })).heap[w.heap.size+1]?=some (.loop { rec .ready none with state:=.busy }):=World.putObj_heap_same hll1
    have hd2:(w1.putObj (w.heap.size+1) (.loop { rec .ready none with state:=.busy })).heap[w.heap.size]?=some (.deferred (some [])):=(World.putObj_heap_other (by omega)).trans hd1
    refine wpIn_mono (hbody _ (putObj_turns _ _ _) (by simp)) ?_
    have fin:∀ (jump:Option Code) (W3:World) (Fp3:Nat→Prop),Turns (fun k=>Fp k∨W.heap.size≤k) (w1.putObj (w.heap.size+1) (.loop { rec .ready none with state:=.busy })) W3→(∀ k,Fp3 k→Fp k∨W.heap.size≤k) →
      (Instr.endRound (w.heap.size+1) jump).run P W3=.ok (.bool jump.isNone) (W3.putObj (w.heap.size+1) (.loop (rec (if jump.isNone then .ready else .done) jump))) ∧
      (W3.putObj (w.heap.size+1) (.loop (rec (if jump.isNone then .ready else .done) jump))).heap[w.heap.size+1]?=some (.loop (rec (if jump.isNone then .ready else .done) jump)) ∧
      (W3.putObj (w.heap.size+1) (.loop (rec (if jump.isNone then .ready else .done) jump))).heap[w.heap.size]?=some (.deferred (some [])) ∧
      Turns Fp' W (W3.putObj (w.heap.size+1) (.loop (rec (if jump.isNone then .ready else .done) jump)))∧Grows F Fp3 W1∧Turns (fun k=>¬ Fp3 k) W3 (W3.putObj (w.heap.size+1) (.loop (rec (if jump.isNone then .ready else .done) jump))):=fun jump W3 Fp3 ht3 hg3=>by
     have hno:¬ (Fp (w.heap.size+1)∨W.heap.size≤w.heap.size+1):=fun h=>h.elim (hnl hgr) fun h=>by omega
     have hno2:¬ (Fp w.heap.size∨W.heap.size≤w.heap.size):=fun h=>h.elim (hnd hgr) fun h=>by omega
     have hl3:W3.heap[w.heap.size+1]?=some (.loop { rec .ready none with state:=.busy }):=by rw [ht3.block _ (by simpa using hll1) hno]; exact hl2
     have hd3:W3.heap[w.heap.size]?=some (.deferred (some [])):=by rw [ht3.block _ (Array.getElem?_eq_some_iff.1 hd2).1 hno2]; exact hd2
     have h:=run_endRound (P:=P) jump hl3
     have hgr3:Grows F Fp3 W1:=fun k hk=>(hg3 k hk).elim (hgr k) fun h=>Or.inr (by omega)
     rw [hrec] at h ⊢
     refine ⟨h,World.putObj_heap_same (Array.getElem?_eq_some_iff.1 hl3).1,(World.putObj_heap_other (by omega)).trans hd3,?_,hgr3,(putObj_turns _ _ _).mono fun k _ hk hk3=>hnl hgr3 (hk ▸ hk3)⟩
     refine (ht1.mono (G:=Fp') fun k _ hk=>(hfp k).2 (Or.inl hk)).trans (((putObj_turns w1 (w.heap.size+1) _).mono fun k _ hk=>Or.inl ((hfp k).2 (Or.inr (Or.inl hk)))).trans ((ht3.mono fun k _ hk=>?_).trans ((putObj_turns W3 (w.heap.size+1) _).mono fun k _ hk=>Or.inl (Or.inl (Or.inl ((hfp k).2 (Or.inr (Or.inl hk))))))))
     rcases hk with hk | hk
     ·exact Or.inl (Or.inl ((hfp k).2 (Or.inl hk)))
     ·exact Or.inl (Or.inr hk)
    have out:∀ (v:Bool) (jump:Option Code) (W3:World) (Fp3:Nat→Prop),v=jump.isNone→Turns (fun k=>Fp k∨W.heap.size≤k) (w1.putObj (w.heap.size+1) (.loop { rec .ready none with state:=.busy })) W3→(∀ k,Fp3 k→Fp k∨W.heap.size≤k) →
      Grows Fp' (fun k=>Fp3 k∨k=w.heap.size+1∨k=w.heap.size) W:=fun v jump W3 Fp3 _ _ hg3 k hk=>by
     rcases hk with hk | hk | hk
     ·exact (hg3 k hk).imp (fun h=>(hfp k).2 (Or.inl h)) id
     ·exact Or.inl ((hfp k).2 (Or.inr (Or.inl hk)))
     ·exact Or.inl ((hfp k).2 (Or.inr (Or.inr hk)))
    rintro e a3 W3 hp
    cases e with
    | normal =>
     obtain ⟨Fp3,ht3,hg3,hi3⟩:=hp
     obtain ⟨hrun,hl4,hd4,ht4,hgr3,hst⟩:=fin none W3 Fp3 ht3 hg3
     exact ⟨_,_,hrun,fun k=>Fp3 k∨k=w.heap.size+1∨k=w.heap.size,ht4,out true none W3 Fp3 rfl ht3 hg3,Or.inl ⟨rfl,Fp3,fun _=>Iff.rfl,hgr3,hI _ _ _ _ hi3 hst,hl4,hd4⟩⟩
    | ret =>
     obtain ⟨Fp3,ht3,hg3,hi3⟩:=hp
     obtain ⟨hrun,hl4,hd4,ht4,hgr3,hst⟩:=fin (some .ret) W3 Fp3 ht3 hg3
     exact ⟨_,_,hrun,fun k=>Fp3 k∨k=w.heap.size+1∨k=w.heap.size,ht4,out false (some .ret) W3 Fp3 rfl ht3 hg3,Or.inr ⟨rfl,Fp3,.ret,fun _=>Iff.rfl,hgr3,hIx _ _ _ _ _ hi3 hst,hl4,hd4⟩⟩
    | exit id =>
     obtain ⟨Fp3,ht3,hg3,hi3⟩:=hp
     obtain ⟨hrun,hl4,hd4,ht4,hgr3,hst⟩:=fin (some (.exit id)) W3 Fp3 ht3 hg3
     exact ⟨_,_,hrun,fun k=>Fp3 k∨k=w.heap.size+1∨k=w.heap.size,ht4,out false (some (.exit id)) W3 Fp3 rfl ht3 hg3,Or.inr ⟨rfl,Fp3,.exit id,fun _=>Iff.rfl,hgr3,hIx _ _ _ _ _ hi3 hst,hl4,hd4⟩⟩
    | goto t =>
     obtain ⟨Fp3,ht3,hg3,hi3⟩:=hp
     obtain ⟨hrun,hl4,hd4,ht4,hgr3,hst⟩:=fin (some (.goto t)) W3 Fp3 ht3 hg3
     exact ⟨_,_,hrun,fun k=>Fp3 k∨k=w.heap.size+1∨k=w.heap.size,ht4,out false (some (.goto t)) W3 Fp3 rfl ht3 hg3,Or.inr ⟨rfl,Fp3,.goto t,fun _=>Iff.rfl,hgr3,hIx _ _ _ _ _ hi3 hst,hl4,hd4⟩⟩
    | panic ch=>exact hp.elim
    | outgrown=>exact hp.elim
   | exit id=>exact he.elim
   | goto t=>exact he.elim
   | ret=>exact he.elim
   | panic ch=>exact he.elim
   | outgrown=>exact he.elim
  ·rintro e W2 ⟨⟨v,rfl⟩,Fp2,ht2,-,h⟩
   have htt:∀ (Fp:Nat→Prop) (o:Obj),Turns F w (W2.putObj (w.heap.size+1) o):=fun Fp o=>by
    refine (Turns.of_below (F:=F) hb1).trans ((ht2.mono fun k _ hk=>?_).trans ((putObj_turns W2 (w.heap.size+1) o).mono fun k _ hk=>Or.inl (Or.inr (by omega))))
    rcases hk with (hk | hk | hk) | hk
    ·exact Or.inl hk
    ·exact Or.inr (by omega)
    ·exact Or.inr (by omega)
    ·exact Or.inr (by omega)
   rcases h with ⟨xs,hS,Fp,hfp,hgr,hi,hl,hd⟩ | ⟨pre,hSp,Fp,c,hfp,hgr,hi,hl,hd⟩
   ·refine ⟨none,_,by have:=run_endLoop (P:=P) hl (by rw [hrec]; simp); rw [hrec] at this; exact this,hdone w.heap.size xs Fp _ hS (hI _ _ _ _ hi ((putObj_turns _ _ _).mono fun k _ hk hk3=>hnl hgr (by rw [← hk]; exact hk3))) (htt Fp _) (fun k hk=>(hgr k hk).imp id fun h=>by omega) ((World.putObj_heap_other (by omega)).trans hd) (Nat.le_refl _) (hnd hgr)⟩
   ·refine ⟨some c,_,by have:=run_endLoop (P:=P) hl (by rw [hrec]; simp); rw [hrec] at this; exact this,hstop w.heap.size c pre Fp _ hSp (hIx _ _ _ _ _ hi ((putObj_turns _ _ _).mono fun k _ hk hk3=>hnl hgr (by rw [← hk]; exact hk3))) (htt Fp _) (fun k hk=>(hgr k hk).imp id fun h=>by omega) ((World.putObj_heap_other (by omega)).trans hd) (Nat.le_refl _) (hnd hgr)⟩
open Go.RowKit
open Tm (Sp Tr has put cut kids)
section
variable {F:Fence} {n:Nat} {P:Program} {ops:Array Oper} {rest:List Oper} {o:Oper} {a:Act} {w w':World} {Q:Exit→Act→World→Prop}
theorem wpListIn_value {v:Value} (hw:Region.wanted o (yielded ops a.tmps)=true) (hd:∀ c,o.op ≠ .defer c) (ha:o.about P w a.eval=none) (hr:(execOp a.eval o).run P w=.ok (.value v) w') (h:wpListIn F n P ops Q rest (a.put o.dst v) w'):wpListIn F n P ops Q (o :: rest) a w:=by
 refine wpListIn_step fun K hK=>?_
 rw [if_pos hw]
 unfold Oper.wpIn
 rw [Oper.semAt_eq _ _ _ hd,hr]
 exact ⟨fun f hf=>(by rw [ha] at hf; cases hf),hK _ _ h⟩
theorem wpListIn_skipped (hw:Region.wanted o (yielded ops a.tmps)=true) (hd:∀ c,o.op ≠ .defer c) (ha:o.about P w a.eval=none) (hr:(execOp a.eval o).run P w=.ok .skip w') (h:wpListIn F n P ops Q rest (a.put o.dst undef) w'):wpListIn F n P ops Q (o :: rest) a w:=by
 refine wpListIn_step fun K hK=>?_
 rw [if_pos hw]
 unfold Oper.wpIn
 rw [Oper.semAt_eq _ _ _ hd,hr]
 exact ⟨fun f hf=>(by rw [ha] at hf; cases hf),hK _ _ h⟩
theorem about_load {t:TypeId} {y:Operand} (ho:o.op=.load t y):o.about P w a.eval=none:=by simp [Oper.about,ho]
end
theorem wpListIn_load_part {F:Fence} {m:Nat} {t:TypeId} {n:Nat} (V:AgT t n) {ops:Array Oper} {rest:List Oper} {o:Oper} {a:Act} {w:World} {Q:Exit→Act→World→Prop} (hgd:Region.wanted o (yielded ops a.tmps)=true) (y:Operand) (ho:o.op=.load t y)
  (b i:Nat) (hx:a.eval y=.pointer (some ⟨b,i,none⟩)) (cs:List Value) (hn:cs.length=n) {A:Array Value} (hv:AgAt w b A) (hc:∀ j v,cs[j]?=some v→A[i+j]?=some v)
  (h:wpListIn F m Tryz.prog ops Q rest (a.put o.dst (.agg cs.toArray)) w):wpListIn F m Tryz.prog ops Q (o :: rest) a w :=
 wpListIn_value hgd (by rw [ho]; intro c hc; cases hc) (about_load ho) (exec_load_part V ho hx cs hn hv hc) h
theorem wpListIn_load_ag {F:Fence} {m:Nat} {t:TypeId} {n:Nat} (V:AgT t n) {ops:Array Oper} {rest:List Oper} {o:Oper} {a:Act} {w:World} {Q:Exit→Act→World→Prop} (hgd:Region.wanted o (yielded ops a.tmps)=true) (y:Operand) (ho:o.op=.load t y)
  (b:Nat) (hx:a.eval y=.pointer (some ⟨b,0,none⟩)) {A:Array Value} (hn:A.size=n) (hv:AgAt w b A)
  (h:wpListIn F m Tryz.prog ops Q rest (a.put o.dst (.agg A)) w):wpListIn F m Tryz.prog ops Q (o :: rest) a w :=
 wpListIn_value hgd (by rw [ho]; intro c hc; cases hc) (about_load ho) (exec_load_ag V ho hx hn hv) h
theorem look_of {w:World} {M:Nat} {T:Tr} {n:Qm.St} (h:SMap w M (spots T)) (hn:StWf n) :
  (Instr.lookup 237 (.map (some M)) (snV n) true).run Tryz.prog w=.ok (.tuple #[.agg (spA ((Tm.look T n).getD zS)),.bool (Tm.look T n).isSome]) w:=by
 rw [h.lookOk mtSpots n hn,lk_spots]
 cases Tm.look T n <;> rfl
theorem wp_load_part {t:TypeId} {n:Nat} (V:AgT t n) {o:Oper} {a:Act} {w:World} {K:Act→World→Prop} {Q:Exit→Act→World→Prop} (y:Operand) (ho:o.op=.load t y)
  (b i:Nat) (hx:a.eval y=.pointer (some ⟨b,i,none⟩)) (cs:List Value) (hn:cs.length=n) {A:Array Value} (hv:AgAt w b A) (hc:∀ j v,cs[j]?=some v→A[i+j]?=some v)
  (h:K (a.put o.dst (.agg cs.toArray)) w):Oper.wp Tryz.prog o a w K Q:=by
 unfold Oper.wp
 rw [exec_load_part V ho hx cs hn hv hc]
 exact h
def UpAt (w:World) (b0 b1 P M1 M2:Nat) (n:Qm.St) (T:Tr):Prop :=
 AgAt w b0 #[.pointer (some ⟨P,0,none⟩)]∧AgAt w b1 #[.int .i64 n.1,.int .i64 n.2]∧AgAt w P #[.map (some M1),.map (some M2)]∧SMap w M1 (spots T)
theorem UpAt.turns {w w':World} {b0 b1 P M1 M2:Nat} {n:Qm.St} {T:Tr} {G:Nat→Prop} (h:UpAt w b0 b1 P M1 M2 n T) (ht:Turns G w w') (h0:¬ G b0) (h1:¬ G b1) (h2:¬ G P) (h3:¬ G M1):UpAt w' b0 b1 P M1 M2 n T :=
 ⟨h.1.block (ht.block _ (AgAt.lt h.1) h0),h.2.1.block (ht.block _ (AgAt.lt h.2.1) h1),h.2.2.1.block (ht.block _ (AgAt.lt h.2.2.1) h2),h.2.2.2.turns ht h3⟩
theorem UpAt.kept {w w':World} {b0 b1 P M1 M2:Nat} {n:Qm.St} {T:Tr} (h:UpAt w b0 b1 P M1 M2 n T) (hb:Below w.heap.size w w'):UpAt w' b0 b1 P M1 M2 n T:=h.turns (Turns.of_below (F:=fun _=>False) hb) (fun h=>h) (fun h=>h) (fun h=>h) fun h=>h
structure UpI (T:Tr) (n:Qm.St) (J:List Qm.St→(Nat→Prop)→World→Prop) (Fp:Nat→Prop) (W0:World) (A:Nat) (va:Sp) (ib:Bool) (pre rest:List Qm.St) (F1:Nat→Prop) (w:World):Prop where
 all:pre ++ rest=Tm.chain T n
 here:ib=true→∃ rest',rest=va.1 :: rest'∧Tm.Up T va.1 rest'
 gone:ib=false→rest=[]
 wf:ib=true→StWf va.1
 inv:J pre F1 w
 box:AgAt w A (spA va)
 fa:¬ F1 A
 la:W0.heap.size≤A
 turns:Turns (fun k=>Fp k∨W0.heap.size≤k) W0 w
 grows:Grows Fp F1 W0
def Uped (T:Tr) (n:Qm.St) (J Jx:List Qm.St→(Nat→Prop)→World→Prop) (Fp:Nat→Prop) (W:World) (e:Ending) (W':World):Prop :=
 (∃ v,e=.returned v)∧∃ Fp',Turns (fun k=>Fp k∨W.heap.size≤k) W W'∧Grows Fp Fp' W∧((∃ xs,xs=Tm.chain T n∧J xs Fp' W')∨(∃ pre,pre <+: Tm.chain T n∧Jx pre Fp' W'))
theorem up1_seq {T:Tr} (ok:Tm.Ok T) {n:Qm.St} (hn:StWf n) (hpar:∀ e ∈ T,StWf e.2.1) {b0 b1 P M1 M2:Nat} {F0:Nat→Prop} (w:World) (h:UpAt w b0 b1 P M1 M2 n T) (k0:¬ F0 b0) (k1:¬ F0 b1) (k2:¬ F0 P) (k3:¬ F0 M1) :
  SeqFp Tryz.prog 312 #[.pointer (some ⟨b0,0,none⟩),.pointer (some ⟨b1,0,none⟩)] snV (fun xs=>xs=Tm.chain T n) (fun pre=>pre <+: Tm.chain T n) F0 w:=by
 intro l J Jx W Fp hW hFp hJ hlt hY h0
 have HU:=Hi (h.kept hW)
 have HNF:=Hi (show (¬ Fp b0∧¬ Fp b1∧¬ Fp P∧¬ Fp M1)∧(b0<W.heap.size∧b1<W.heap.size∧P<W.heap.size∧M1<W.heap.size) from
  ⟨⟨fun hh=>k0 (hFp _ (AgAt.lt h.1) hh),fun hh=>k1 (hFp _ (AgAt.lt h.2.1) hh),fun hh=>k2 (hFp _ (AgAt.lt h.2.2.1) hh),fun hh=>k3 (hFp _ h.2.2.2.lt hh)⟩,AgAt.lt HU.out.1,AgAt.lt HU.out.2.1,AgAt.lt HU.out.2.2.1,HU.out.2.2.2.lt⟩)
 have HWN:=Hi hn
 have HJ:=Hi hJ
 have HLT:=Hi hlt
 have HY:=Hi hY
 have HI0:=Hi h0
 have HPAR:=Hi hpar
 have HOK:=Hi ok
 obtain ⟨ib,hib⟩:∃ b,b=(Tm.look T n).isSome:=⟨_,rfl⟩
 obtain ⟨va,hva⟩:∃ s,s=(Tm.look T n).getD zS:=⟨_,rfl⟩
 have HIB:=Hi hib
 have HVA:=Hi hva
 clear h hW hFp hJ hlt hY h0 k0 k1 k2 k3 hib hva hn hpar ok
 refine Calls.mono (R:=Uped T n J Jx Fp W) ?_ fun e W' h=>h
 simp only [List.append_toArray,List.cons_append,List.nil_append]
 go_enter Tryz.func312,Tryz.ntmps312
 go_upto_region 0 with fail
 refine wp_region_held_drew (S:=fun W'=>Below W.heap.size W W') (by kernel_rfl) (Below.refl _ _).drew (fun hS=>?_)
 have HD:=Hi (show Below W.heap.size W W.drew from (Below.refl _ _).drew)
 have HZD:=Hi (show W.drew.heap.size=W.heap.size from rfl)
 generalize W.drew=wd at *
 refine tK 0 (v:=?_) rfl ?_ hS ?_
 rotate_left
 ·intro W hSW
  have yb:W.cell? ⟨b0,0,none⟩=some (.pointer (some ⟨P,0,none⟩)):=by rw [AgAt.cell (AgAt.kept HU.out.1 hSW) 0]; rfl
  go_simp
  all_goals with_reducible rfl
 refine tX 1 rfl hS ?_
 refine tX 2 rfl hS ?_
 refine tK 3 (v:=?_) rfl ?_ hS ?_
 rotate_left
 ·intro W hSW
  have y0:W.cell? ⟨P,0,none⟩=some (.map (some M1)):=by rw [AgAt.cell (AgAt.kept HU.out.2.2.1 hSW) 0]; rfl
  go_simp
  all_goals with_reducible rfl
 go_simp
 refine tK 4 (v:=snV n) rfl (fun W hSW=>exec_load_ag stT rfl rfl rfl (AgAt.kept HU.out.2.1 hSW)) hS ?_
 go_simp
 refine tK 5 (v:=.tuple #[.agg (spA va),.bool ib]) rfl (fun W hSW=>exec_lookup rfl rfl rfl (by rw [HIB.out,HVA.out]; exact look_of (HU.out.2.2.2.below hSW) HWN.out)) hS ?_
 refine tX 6 rfl hS ?_
 refine tX 7 rfl hS ?_
 refine tX 8 rfl hS ?_
 go_simp
 refine rD 9 rfl (fun K hK=>?_)
 have HS0:=Hi hS
 go_simp
 have hba:=(Below.refl wd.heap.size wd).alloc (Nat.le_refl _) (.cells #[.int .i64 0,.int .i64 0,.string ⟨#[]⟩] 106)
 refine hK.out _ _ (hS.trans (hba.mono hS.size)) (fun hS=>?_)
 clear hK K hba
 refine rD 10 rfl (fun K hK=>?_)
 refine step_of (by kernel_rfl) ?_
 refine wp_store_newag spT _ _ rfl rfl _ (A:=spA va) rfl rfl rfl (spA_one _) ?_
 intro w5 hv5 hb5
 have HV5:=Hi hv5
 refine hK.out _ _ (HS0.out.trans (hb5.mono HS0.out.size)) (fun hS=>?_)
 clear hK K hv5 hb5
 refine tX 11 rfl hS ?_
 go_simp
 refine wpAnyH_done (by kernel_rfl) ?_ _
 go_simp
 have HT:=Hi (show Turns (fun k=>Fp k∨W.heap.size≤k) W w5 from Turns.of_below hS)
 have HI:=Hi (show UpI T n J Fp W wd.heap.size va ib [] (Tm.chain T n) Fp w5 from ⟨rfl,fun hh=>by
   obtain ⟨s,hs⟩:=Option.isSome_iff_exists.1 (HIB.out.symm.trans hh)
   have:va=s:=by rw [HVA.out,hs]; rfl
   subst this
   exact ⟨_,HOK.out.chainEq (Tm.Up.step hs (HOK.out.chain va.1)),HOK.out.chain va.1⟩,fun hh=>by
   have h2:(Tm.look T n)=none:=by have:=HIB.out.symm.trans hh; rwa [Option.isSome_eq_false_iff,Option.isNone_iff_eq_none] at this
   exact HOK.out.chainEq (Tm.Up.stop h2),fun hh=>by
   obtain ⟨s,hs⟩:=Option.isSome_iff_exists.1 (HIB.out.symm.trans hh)
   have:va=s:=by rw [HVA.out,hs]; rfl
   subst this
   exact HPAR.out _ (Tm.look_mem hs),HJ.out _ _ _ _ HI0.out (Turns.of_below hS),HV5.out,fun hh=>by have:=HLT.out _ _ _ HI0.out _ hh; have:=HZD.out; omega,by have:=HZD.out; omega,HT.out,Grows.refl _ _⟩)
 clear hS HV5 HT HI0 HS0 HD HIB HVA
 generalize wd.heap.size=A at *
 go_wp2_with fail
 go_loopg [5] ((Tm.chain T n).length+1) (fun g (p:Value) wr=>∃ jb va pre rest F1,p=.bool jb∧UpI T n J Fp W A va jb pre rest F1 wr∧rest.length<g)
 case atStart=>exact ⟨_,_,_,_,_,rfl,HI.out,Nat.lt_succ_self _⟩
 case round =>
  clear HI
  obtain ⟨jb,va,pre,rest,F1,rfl,hI,hlg⟩:=hrel
  obtain ⟨g1,rfl⟩:∃ g1,gk=g1+1:=⟨gk - 1,by omega⟩
  have HI:=Hi hI
  have HLG:=Hi hlg
  clear hI hlg
  cases jb with
  | false =>
   have HE:=Hi (show Uped T n J Jx Fp W (.returned (.tuple #[])) wr from by
    have h1:=HI.out.all
    rw [HI.out.gone rfl,List.append_nil] at h1
    exact ⟨⟨_,rfl⟩,F1,HI.out.turns,HI.out.grows,Or.inl ⟨pre,h1,HI.out.inv⟩⟩)
   clear HI HY HU HNF HLG
   go_wp2
   go_end0
   exact HE.out
  | true =>
   obtain ⟨rest',hr1,hr2⟩:=HI.out.here rfl
   have HRR:=Hi hr1
   have HUP:=Hi hr2
   have HPX:=Hi (show pre ++ [va.1] <+: Tm.chain T n from ⟨rest',by rw [← HI.out.all,hr1,List.append_assoc]; rfl⟩)
   clear hr1 hr2
   have hy:=HY.out pre va.1 F1 wr HI.out.inv HPX.out
   obtain ⟨fn,tmps,assign,body,hyr,hR⟩:=hy
   have HR:=Hi hR
   clear hR
   refine wp_seq_k (fun K hK=>?_)
   refine (wpIn_wide (n:=0)).1 ?_
   gi_wp2_with (refine wpListIn_load_part stT (by kernel_rfl) _ rfl _ 0 rfl [.int .i64 va.1.1,.int .i64 va.1.2] rfl HI.out.box spPar ?_)
   refine ⟨rfl,HR.out.mono ?_⟩
   rintro e w3 ⟨F3,ht3,hg3,(⟨rfl,hj3⟩ | ⟨rfl,hj3⟩)⟩
   ·have HT3:=Hi (show Turns (fun k=>Fp k∨W.heap.size≤k) W w3 from HI.out.turns.trans (ht3.mono fun k _ hk=>Or.inl (HI.out.grows k hk)))
    have HU3:=Hi (HU.out.turns HT3.out (fun h=>h.elim HNF.out.1.1 fun h=>by have:=HNF.out.2.1; omega) (fun h=>h.elim HNF.out.1.2.1 fun h=>by have:=HNF.out.2.2.1; omega) (fun h=>h.elim HNF.out.1.2.2.1 fun h=>by have:=HNF.out.2.2.2.1; omega) (fun h=>h.elim HNF.out.1.2.2.2 fun h=>by have:=HNF.out.2.2.2.2; omega))
    have HV:=Hi (AgAt.block HI.out.box (ht3.block _ (AgAt.lt HI.out.box) HI.out.fa))
    have HFA:=Hi (show ¬ F3 A from fun h=>(hg3 _ h).elim HI.out.fa fun h=>by have:=AgAt.lt HI.out.box; omega)
    have HG3:=Hi (show Grows Fp F3 W from fun k hk=>(hg3 k hk).elim (HI.out.grows k) fun h=>Or.inr (Nat.le_trans HI.out.turns.size h))
    have HJ3:=Hi hj3
    have HWP:=Hi (HI.out.wf rfl)
    have HNA:=Hi (show b0≠A∧P≠A∧M1≠A from by have h1:=HNF.out.2; have h2:=HI.out.la; omega)
    have HLA:=Hi HI.out.la
    have HAL:=Hi HI.out.all
    obtain ⟨jb,hjb⟩:∃ b,b=(Tm.look T va.1).isSome:=⟨_,rfl⟩
    obtain ⟨vb,hvb⟩:∃ s,s=(Tm.look T va.1).getD zS:=⟨_,rfl⟩
    have HJB:=Hi hjb
    have HVB:=Hi hvb
    clear HI HR ht3 hg3 hj3 hjb hvb hyr
    gi_wp2
    clear HY HU HNF
    go_upto_region 2 with fail
    have hbd:=Below.drew (Below.refl w3.heap.size w3)
    replace HT3:=Hi (HT3.out.trans (Turns.of_below hbd))
    replace HU3:=Hi (HU3.out.kept hbd)
    replace HV:=Hi (AgAt.kept HV.out hbd)
    replace HJ3:=Hi (HJ.out _ _ _ _ HJ3.out (Turns.of_below hbd))
    refine wp_region_held_drew (S:=fun W'=>AgAt W' b0 #[.pointer (some ⟨P,0,none⟩)]∧AgAt W' P #[.map (some M1),.map (some M2)]∧SMap W' M1 (spots T)) (by kernel_rfl) ⟨HU3.out.1,HU3.out.2.2.1,HU3.out.2.2.2⟩ (fun hS=>?_)
    clear hbd
    generalize w3.drew=w3 at *
    refine tK 0 (v:=?_) rfl ?_ hS ?_
    rotate_left
    ·intro W hSW
     have yb:W.cell? ⟨b0,0,none⟩=some (.pointer (some ⟨P,0,none⟩)):=by rw [AgAt.cell hSW.1 0]; rfl
     go_simp
     all_goals with_reducible rfl
    refine tX 1 rfl hS ?_
    refine tX 2 rfl hS ?_
    refine tK 3 (v:=?_) rfl ?_ hS ?_
    rotate_left
    ·intro W hSW
     have y0:W.cell? ⟨P,0,none⟩=some (.map (some M1)):=by rw [AgAt.cell hSW.2.1 0]; rfl
     go_simp
     all_goals with_reducible rfl
    go_simp
    refine tX 4 rfl hS ?_
    go_simp
    refine rD 5 rfl (fun K hK=>?_)
    refine step_of (by kernel_rfl) ?_
    refine wp_load_part stT _ rfl A 0 rfl [.int .i64 va.1.1,.int .i64 va.1.2] rfl HV.out spPar ?_
    refine hK.out _ _ hS (fun hS=>?_)
    clear hK K
    refine tK 6 (v:=.tuple #[.agg (spA vb),.bool jb]) rfl (fun W hSW=>exec_lookup rfl rfl rfl (by rw [HJB.out,HVB.out]; exact look_of hSW.2.2 HWP.out)) hS ?_
    refine tX 7 rfl hS ?_
    refine tX 8 rfl hS ?_
    refine tX 9 rfl hS ?_
    go_simp
    refine rD 10 rfl (fun K hK=>?_)
    refine step_of (by kernel_rfl) ?_
    refine wp_store_ag spT _ _ rfl A rfl _ HV.out (A:=spA vb) rfl rfl rfl (spA_one _) ?_
    intro w5 hv5 hko5 hsz5 hbn5
    have HT5:=Hi (stored_turns hko5 hsz5 hbn5)
    have HV5:=Hi hv5
    refine hK.out _ _ ⟨AgAt.block hS.1 (hko5 _ HNA.out.1),AgAt.block hS.2.1 (hko5 _ HNA.out.2.1),hS.2.2.block (hko5 _ HNA.out.2.2)⟩ (fun hS=>?_)
    clear hK K hv5 hko5 hsz5 hbn5 HV
    refine tX 11 rfl hS ?_
    go_simp
    refine wpAnyH_done (by kernel_rfl) ?_ _
    go_simp
    clear hS HU3
    replace HT3:=Hi (HT3.out.trans (HT5.out.mono fun k _ hk=>Or.inl (Or.inr (by subst hk; exact HLA.out))))
    replace HJ3:=Hi (HJ.out _ _ _ _ HJ3.out (HT5.out.mono fun k _ hk h=>HFA.out (by subst hk; exact h)))
    have HI:=Hi (show UpI T n J Fp W A vb jb (pre ++ [va.1]) rest' F3 w5 from ⟨by rw [List.append_assoc,← HAL.out,HRR.out]; rfl,fun hh=>by
      obtain ⟨s,hs⟩:=Option.isSome_iff_exists.1 (HJB.out.symm.trans hh)
      have:vb=s:=by rw [HVB.out,hs]; rfl
      subst this
      exact ⟨_,Tm.up_det HUP.out (Tm.Up.step hs (HOK.out.chain vb.1)),HOK.out.chain vb.1⟩,fun hh=>by
      have h2:(Tm.look T va.1)=none:=by have:=HJB.out.symm.trans hh; rwa [Option.isSome_eq_false_iff,Option.isNone_iff_eq_none] at this
      exact Tm.up_det HUP.out (Tm.Up.stop h2),fun hh=>by
      obtain ⟨s,hs⟩:=Option.isSome_iff_exists.1 (HJB.out.symm.trans hh)
      have:vb=s:=by rw [HVB.out,hs]; rfl
      subst this
      exact HPAR.out _ (Tm.look_mem hs),HJ3.out,HV5.out,HFA.out,HLA.out,HT3.out,HG3.out⟩)
    have HL1:=Hi (show rest'.length<g1 from by have:=HLG.out; rw [HRR.out] at this; simp only [List.length_cons] at this; omega)
    clear HT3 HJ3 HFA HAL HJB HVB HWP HPX HUP HRR HLG HG3 HT5 HV5
    go_wp2
    go_roundg g1
    case rel=>exact ⟨_,_,_,_,_,rfl,HI.out,HL1.out⟩
    case measure=>omega
   ·have HE:=Hi (show Uped T n J Jx Fp W (.returned (.tuple #[])) w3 from
     ⟨⟨_,rfl⟩,F3,HI.out.turns.trans (ht3.mono fun k _ hk=>Or.inl (HI.out.grows k hk)),fun k hk=>(hg3 k hk).elim (HI.out.grows k) fun h=>Or.inr (Nat.le_trans HI.out.turns.size h),Or.inr ⟨_,HPX.out,hj3⟩⟩)
    clear HI HR HY HU HNF ht3 hg3 hj3 hyr
    gi_wp2
    go_end0
    exact HE.out
open Go.RowKit
open Tm (Sp Tr has put cut kids)
attribute [local go_sem] Oper.semAt_some
section
variable {F:Fence} {nf:Nat} {ops:Array Oper} {rest:List Oper} {o:Oper} {a:Act} {w:World} {Q:Exit→Act→World→Prop}
theorem wpListIn_store_ag {t:TypeId} {n:Nat} {A:Array Value} (V:AgT t n) (hgd:o.guard=none) (x y:Operand) (ho:o.op=.store t x y)
  (b:Nat) (hx:a.eval x=.pointer (some ⟨b,0,none⟩)) (u:Array Value) (hv:AgAt w b u) (hy:a.eval y=.agg A) (hu:u.size=n) (hn:A.size=n) (h1:A.all (·.oneCell')=true)
  (h:∀ w':World,AgAt w' b A→(∀ k,k≠b→w'.heap[k]?=w.heap[k]?)→w'.heap.size=w.heap.size→(∀ B w0,Below B w0 w→B≤b→Below B w0 w')→wpListIn F nf Tryz.prog ops Q rest (a.put o.dst undef) w'):wpListIn F nf Tryz.prog ops Q (o :: rest) a w:=by
 obtain ⟨T,hv⟩:=hv
 have hr:(storeVar t ⟨b,0,none⟩ (.agg A)).run Tryz.prog w=.ok () (w.setRow b A):=run_storeVar_row w b T t u A hv (by rw [hn]; exact V.size) (by rw [hu,hn]) h1
 refine wpListIn_skipped (w':=w.setRow b A) (by simp [Region.wanted,hgd]) (by rw [ho]; intro c hc; cases hc) (by simp [Oper.about,ho]) ?_ ?_
 ·unfold execOp
  simp only [ho,hx,hy,Instr.storeAt,Instr.sureAddr,Sem.run_bind,Sem.run_pure,Result.andThen_ok,hr]
 ·refine h _ ⟨T,setRow_heap w b _ _ T _ hv⟩ (fun k hk=>setRow_other w b k _ hk) (by simp) ?_
  intro B w0 hb hB
  exact hb.trans ⟨rfl,rfl,rfl,by simp,fun k hk=>setRow_other w b k _ (by omega)⟩
theorem wpListIn_store_newag {t:TypeId} {n:Nat} {A:Array Value} (V:AgT t n) {T:TypeId} (hgd:o.guard=none) (x y:Operand) (ho:o.op=.store t x y)
  (hx:a.eval x=.pointer (some ⟨w.heap.size,0,none⟩)) (u:Array Value) (hy:a.eval y=.agg A) (hu:u.size=n) (hn:A.size=n) (h1:A.all (·.oneCell')=true)
  (h:∀ w':World,AgAt w' w.heap.size A→Below w.heap.size w w'→wpListIn F nf Tryz.prog ops Q rest (a.put o.dst undef) w'):wpListIn F nf Tryz.prog ops Q (o :: rest) a (w.alloc (.cells u T)) :=
 wpListIn_store_ag V hgd x y ho w.heap.size hx u ⟨T,heap_alloc_new w _⟩ hy hu hn h1 fun w' hv _ _ hb=>h w' hv (hb _ _ ((Below.refl _ _).alloc (Nat.le_refl _) _) (Nat.le_refl _))
theorem run_build_st (w:World) (t r:Int):(Instr.buildSlice 36 1 #[(0,.agg #[.int .i64 t,.int .i64 r])]).run Tryz.prog w=.ok (.slice (some ⟨w.heap.size,0,none⟩) 1 1) (w.alloc (.cells #[.int .i64 t,.int .i64 r] 35)):=by kernel_rfl
theorem wpListIn_build_st (x:Operand) (hgd:o.guard=none) (ho:o.op=.buildSlice 36 1 #[(0,x)]) (t r:Int) (hx:a.eval x=.agg #[.int .i64 t,.int .i64 r])
  (h:wpListIn F nf Tryz.prog ops Q rest (a.put o.dst (.slice (some ⟨w.heap.size,0,none⟩) 1 1)) (w.alloc (.cells #[.int .i64 t,.int .i64 r] 35))):wpListIn F nf Tryz.prog ops Q (o :: rest) a w:=by
 refine wpListIn_value (by simp [Region.wanted,hgd]) (by rw [ho]; intro c hc; cases hc) (by simp [Oper.about,ho]) ?_ h
 unfold execOp
 simp only [ho,Sem.run_bind,Sem.run_pure,Result.andThen_ok,List.map_toArray,List.map_cons,List.map_nil,hx,run_build_st]
theorem wpListIn_append_k {P:Program} (hgd:o.guard=none) (s x:Operand) (t:TypeId)
  (ho:o.op=.call { callee:=.builtin .append,args:=#[s,x],argTypes:=#[t,t] })
  (base:Nat) (e:TypeId) (i:TypeInfo) (z:Value) (k bytes:Nat) (ht:P.underlying t=some (.slice e)) (hi:P.info? e=some i) (hz:i.zero=some z)
  (hsize:i.size=k) (hk0:0<k) (hby:i.bytes=bytes) (hb1:bytes≤1000) (hzs:z.cells.size=k)
  (v:Value) (n:Nat) (xs:List Value) (hs:a.eval s=v) (hown:w.ownsRow base e k v n xs)
  (p:Option Addr) (m c:Nat) (us:List Value) (hx:a.eval x=.slice p m c) (hus:us.length=m * k) (hrd:Rd w p us) (hpn:p=none→c=0) (h1:∀ u ∈ us,u.oneCell'=true)
  (hsz:n+m≤1000000) (hbase:base≤w.heap.size)
  (h:∀ p' c' w',w'.ownsRow base e k (.slice p' (n+m) c') (n+m) (xs ++ us)→w.grownBy w' v.ownBlock→(∀ g,(Value.slice p' (n+m) c').ownBlock=some g→v.ownBlock=some g∨w.heap.size≤g)→wpListIn F nf P ops Q rest (a.put o.dst (.slice p' (n+m) c')) w'):wpListIn F nf P ops Q (o :: rest) a w:=by
 obtain ⟨v',w',hr,h2,h3,h4⟩:=run_append_k (P:=P) w base t o.type e i z k bytes ht hi hz hsize hk0 hby (by omega) hzs v n xs hown p m c us hus hrd hpn h1
  (Nat.le_trans (Nat.mul_le_mul hsz hb1) (by decide)) (by unfold maxLen; omega) hbase
 obtain ⟨p',c',rfl,-⟩:=own_rd h2
 refine wpListIn_value (w':=w') (by simp [Region.wanted,hgd]) (by rw [ho]; intro c hc; cases hc) (by simp [Oper.about,ho,resolve,Target.leads,Sem.run_pure]) ?_ (h p' c' w' h2 h3 h4)
 unfold execOp
 simp only [ho,resolve,invoke,builtin,Sem.run_bind,Sem.run_pure,Result.andThen_ok,List.map_toArray,List.map_cons,List.map_nil,hs,hx,hr]
end
theorem st2_one (a b:Int):∀ u ∈ [Value.int .i64 a,.int .i64 b],u.oneCell'=true:=by
 intro v hv
 simp only [List.mem_cons,List.not_mem_nil,or_false] at hv
 rcases hv with rfl | rfl <;> rfl
theorem Rd_new2 (w:World) (a b:Int):Rd (w.alloc (.cells #[.int .i64 a,.int .i64 b] 35)) (some ⟨w.heap.size,0,none⟩) [.int .i64 a,.int .i64 b]:=fun _ =>
 ⟨w.heap.size,0,rfl,fun i u hu=>by
  have h:=AgAt.cell (AgAt.new w #[.int .i64 a,.int .i64 b] 35) i
  rw [Nat.zero_add,h]
  rw [List.getElem?_toArray]
  exact hu⟩
theorem ownsRow_base {w:World} {B B':Nat} {e:TypeId} {k n:Nat} {v:Value} {xs:List Value} (h:w.ownsRow B e k v n xs) (hB:B'≤B):w.ownsRow B' e k v n xs:=by
 refine ⟨h.1,?_⟩
 rcases h.2 with h2 | ⟨g,cap,cur,hv,hg,r⟩
 ·exact Or.inl h2
 ·exact Or.inr ⟨g,cap,cur,hv,Nat.le_trans hB hg,r⟩
def Col (B:Nat) (pre:List Qm.St) (Fp:Nat→Prop) (W:World):Prop :=
 ∃ v,W.cell? ⟨B,0,none⟩=some v∧W.frozen? ⟨B,0,none⟩=false∧W.ownsRow (B+1) 35 2 v pre.length (stCells pre)∧∀ k,Fp k↔k=B∨v.ownBlock=some k
theorem Col.stable {B:Nat} (pre:List Qm.St) (Fp:Nat→Prop) (W W':World) (h:Col B pre Fp W) (ht:Turns (fun k=>¬ Fp k) W W'):Col B pre Fp W':=by
 obtain ⟨v,hc,hf,ho,hfp⟩:=h
 exact ⟨v,ht.cell hc fun h=>h ((hfp B).2 (Or.inl rfl)),(ht.frozen (p:=⟨B,0,none⟩) (cell_lt hc) fun h=>h ((hfp B).2 (Or.inl rfl))).trans hf,ht.own ho fun g hg h=>h ((hfp g).2 (Or.inr hg)),hfp⟩
theorem Col.lt {B:Nat} (pre:List Qm.St) (Fp:Nat→Prop) (W:World) (h:Col B pre Fp W):∀ k,Fp k→k<W.heap.size:=by
 obtain ⟨v,hc,hf,ho,hfp⟩:=h
 intro k hk
 rcases (hfp k).1 hk with h | h
 ·rw [h]; exact cell_lt hc
 ·exact (World.ownsRow.lt ho k h).2
def Collected (S:List Qm.St→Prop) (w:World) (e:Ending) (w':World):Prop :=
 ∃ v xs,S xs∧e=.returned v∧w'.ownsRow w.heap.size 35 2 v xs.length (stCells xs)∧Below w.heap.size w w'
theorem appendSeq_any {gf:Nat} {lb:Array Value} {S Sp:List Qm.St→Prop} (w:World) (eg:∀ args w,(callFunc gf args).run Tryz.prog w=.ok (.enter gf args) w) (hseq:SeqFp Tryz.prog gf lb snV S Sp (fun k=>w.heap.size≤k) w) (hlen:∀ pre,Sp pre→pre.length≤1000000) :
  Calls Tryz.prog 286 #[.slice none 0 0,.func (.func gf) #[] lb] w (Collected S w):=by
 obtain ⟨i0,hi0,hz00,hz1,hz22⟩:=info_parts oinfo_st
 refine callsIn_wide.1 (callsIn_of_wp_marks (n:=0) Tryz.func286 rfl trivial ?_ rfl)
 simp only [Tryz.ntmps286,List.size_toArray,List.length_cons,List.length_nil,Nat.reduceAdd,Nat.reduceSub,Array.replicate_succ,Array.replicate_zero,List.push_toArray,List.append_toArray,List.nil_append,List.cons_append]
 have hb0:Below w.heap.size w (w.alloc (.cells #[.slice none 0 0] 36)):=(Below.refl _ w).alloc (Nat.le_refl _) _
 gi_wp2
 have hcol:Col w.heap.size [] (fun k=>k=w.heap.size) (w.alloc (.cells #[.slice none 0 0] 36)):=by
  have h:=AgAt.new w #[.slice none 0 0] 36
  exact ⟨_,h.cell 0,h.free 0,World.ownsRow_nil _ _ _ _,fun k=>⟨Or.inl,fun h=>h.elim id fun h=>by cases h⟩⟩
 refine wp_rangeFunc_fp (gf:=gf) (lb:=lb) rfl eg (hseq.later hb0) (Col w.heap.size) (fun _ _ _ _=>False) Col.stable (fun _ _ _ _ _ h _=>h) Col.lt (F:=fun k=>k=w.heap.size) (fun k hk=>by omega) hcol ?round ?done ?stop
 case round =>
  rintro l pre x Fp W ⟨v,hc,hf,ho,hfp⟩ hsp hnl hll
  have hz0:=hlen _ hsp
  have hBW:w.heap.size<W.heap.size:=cell_lt hc
  have hlB:l≠w.heap.size:=fun h=>hnl ((hfp l).2 (Or.inl h))
  gi_wp2_with (refine wpListIn_store_newag stT rfl _ _ rfl rfl _ (A:=#[.int .i64 x.1,.int .i64 x.2]) rfl rfl rfl (stA_one _ _) ?_; intro w1 hv1 hb1)
  refine ⟨Turns.of_below hb1,?_⟩
  intro W2 ht2 hz2
  have h01:Turns (fun k=>k=l) W W2:=(Turns.of_below hb1).trans (ht2.mono fun k _ hk=>Or.inl hk)
  have hc2:W2.cell? ⟨w.heap.size,0,none⟩=some v:=h01.cell hc fun h=>hlB h.symm
  have hf2:W2.frozen? ⟨w.heap.size,0,none⟩=false:=(h01.frozen (p:=⟨w.heap.size,0,none⟩) hBW fun h=>hlB h.symm).trans hf
  have ho2:=h01.own ho fun g hg h=>hnl ((hfp l).2 (Or.inr (by rw [← h]; exact hg)))
  have hx2:AgAt W2 W.heap.size #[.int .i64 x.1,.int .i64 x.2]:=AgAt.block hv1 (ht2.block _ (AgAt.lt hv1) (by omega))
  have hWW:W.heap.size<W2.heap.size:=AgAt.lt hx2
  clear hz2
  have hal:Turns (fun _=>False) W2 (W2.alloc (.cells #[.int .i64 x.1,.int .i64 x.2] 35)):=Turns.of_below ((Below.refl _ W2).alloc (Nat.le_refl _) _)
  have hne:v.ownBlock≠some w.heap.size:=fun h=>by have:=(World.ownsRow.lt ho w.heap.size h).1; omega
  gi_wp2_with (first
   | (refine wpListIn_load_ag stT rfl _ rfl _ rfl (A:=#[.int .i64 x.1,.int .i64 x.2]) rfl hx2 ?_)
   | (refine wpListIn_build_st _ rfl rfl x.1 x.2 rfl ?_)
   | (
     refine wpListIn_append_k rfl _ _ 36 rfl (w.heap.size+1) 35 i0 _ 2 16 Tryz.underlying36 hi0 hz00 hz1 (by decide) hz22 (by decide) rfl v pre.length (stCells pre) rfl (World.ownsRow.alloc ho2 _) _ 1 1 [.int .i64 x.1,.int .i64 x.2] rfl rfl (Rd_new2 W2 x.1 x.2) (fun h=>by cases h) (st2_one _ _) (by simp only [List.length_append,List.length_cons,List.length_nil] at hz0; omega) (by simp; omega) ?_
     intro p' c' w4 ho4 hg4 hw4
     have hcB:w4.cell? ⟨w.heap.size,0,none⟩=some v:=((Turns.of_grown hg4).cell (p:=⟨w.heap.size,0,none⟩) (hal.cell hc2 fun h=>h) fun h=>hne h)
     have hfB:w4.frozen? ⟨w.heap.size,0,none⟩=false:=((Turns.of_grown hg4).frozen (p:=⟨w.heap.size,0,none⟩) (by simp; omega) fun h=>hne h).trans ((hal.frozen (p:=⟨w.heap.size,0,none⟩) (cell_lt hc2) fun h=>h).trans hf2)))
  refine ⟨fun k=>k=w.heap.size∨(Value.slice p' (pre.length+1) c').ownBlock=some k,?_,?_,_,?_,?_,?_,fun _=>Iff.rfl⟩
  ·refine (Turns.of_below ((Below.refl _ W2).alloc (Nat.le_refl _) _)).trans (((Turns.of_grown hg4).mono fun k _ hk=>Or.inl (Or.inl ((hfp k).2 (Or.inr hk)))).trans ((set_turns w.heap.size w4 0 _).mono fun k _ hk=>Or.inl (Or.inl (Or.inl ((hfp k).2 (Or.inl hk))))))
  ·rintro k (hk | hk)
   ·exact Or.inl ((hfp k).2 (Or.inl hk))
   ·rcases hw4 k hk with h | h
    ·exact Or.inl ((hfp k).2 (Or.inr h))
    ·exact Or.inr (by simp at h; omega)
  ·exact World.cell?_setCell_same' _ _ _ (by rw [hcB]; rfl)
  ·rw [World.frozen?_setCell]; exact hfB
  ·have:(pre ++ [x]).length=pre.length+1:=by simp
   rw [this,stCells_append]
   refine (set_turns w.heap.size w4 0 _).own ho4 fun g hg h=>?_
   subst h
   rcases hw4 _ hg with h | h
   ·exact hne h
   ·simp at h; omega
 case done =>
  rintro D xs Fp W hS ⟨v,hc,hf,ho,hfp⟩ ht hg hD hDl hDn
  gi_wp2
  refine ⟨by simp,.inl ⟨_,_,rfl,run_takeDeferred hD,?_⟩⟩
  refine ⟨_,results_tmp rfl _ _ _,v,xs,hS,rfl,?_,?_⟩
  ·exact ((putObj_turns W D (.deferred none)).own ho fun g hg h=>hDn ((hfp D).2 (Or.inr (by rw [← h]; exact hg))))|> fun h=>ownsRow_base h (Nat.le_succ _)
  ·exact ((hb0.trans ((ht.below (B:=w.heap.size) (fun k _ hk=>by omega) (by simp)))).trans ((putObj_turns W D (.deferred none)).below (B:=w.heap.size) (fun k _ hk=>by simp at hDl; omega) (Nat.le_trans (by simp) ht.size)))
 case stop =>
  rintro D c pre Fp W _ h
  exact h.elim
theorem collect_any {gf:Nat} {lb:Array Value} {S Sp:List Qm.St→Prop} (w:World) (eg:∀ args w,(callFunc gf args).run Tryz.prog w=.ok (.enter gf args) w) (hseq:SeqFp Tryz.prog gf lb snV S Sp (fun k=>w.heap.size≤k) w) (hlen:∀ pre,Sp pre→pre.length≤1000000) :
  Calls Tryz.prog 243 #[.func (.func gf) #[] lb] w (Collected S w):=by
 have HA:=Hi (appendSeq_any w eg hseq hlen)
 clear eg hseq hlen
 go_enter Tryz.func243,Tryz.ntmps243
 go_wp2_with fail
 refine HA.out.mono ?_
 rintro e w1 ⟨v,xs,h1,rfl,h2⟩
 have HE:=Hi (show Collected S w (.returned v) w1 from ⟨v,xs,h1,rfl,h2⟩)
 clear h1 h2 HA
 go_wp2
 go_ret
 exact HE.out
end Go.Proofs.YthfhefdfehlbkaaGreat
