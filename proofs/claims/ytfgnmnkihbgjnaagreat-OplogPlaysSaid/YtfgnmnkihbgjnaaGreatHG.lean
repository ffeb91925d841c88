/-
  THE DOCUMENT'S LOG: what Add carries: rows laid in, those that wait, what is answered.
  No conditions but sizes.
  THE DOCUMENT'S LOG: what Add's loop carries ('ReS').
  No conditions but sizes.
-/
import Derived.Test.YtfgnmnkihbgjnaaGreatHI
import Derived.Test.YtfgnmnkihbgjnaaGreatGR
namespace Go.Proofs.YtfgnmnkihbgjnaaGreat
open Go.RowKit
def ApL (L:Lg):Prop:=L.wait.Pairwise fun a b=>¬ (a.r=b.r∧a.s=b.s)
theorem wtL_no {l:List Bat} {r s:Int} (h:l.any (atPl r s)=false):wtL l r s = -1:=by
 have:l.findIdx? (atPl r s)=none:=List.findIdx?_eq_none_iff.2 fun x hx=>by
  cases hb:atPl r s x with
  | false=>rfl
  | true=>rw [List.any_eq_true.2 ⟨x,hx,hb⟩] at h; cases h
 unfold wtL
 rw [this]
theorem wtL_yes {l:List Bat} {r s:Int} (h:l.any (atPl r s)=true):∃ (i:Nat) (hi:i<l.length),wtL l r s=(i:Int)∧atPl r s l[i]=true∧l.find? (atPl r s)=some l[i]:=by
 cases hf:l.findIdx? (atPl r s) with
 | none =>
  obtain ⟨x,hx,hb⟩:=List.any_eq_true.1 h
  have:=List.findIdx?_eq_none_iff.1 hf x hx
  rw [hb] at this
  cases this
 | some i =>
  obtain ⟨hi,h1,h2⟩:=List.findIdx?_eq_some_iff_getElem.1 hf
  refine ⟨i,hi,by unfold wtL; rw [hf],h1,?_⟩
  exact List.find?_eq_some_iff_getElem.2 ⟨h1,i,hi,rfl,fun j hj=>by simpa using h2 j hj⟩
theorem any_find {l:List Bat} {r s:Int} (h:l.any (atPl r s)=false):l.find? (atPl r s)=none:=List.find?_eq_none.2 fun x hx hb=>by
 rw [List.any_eq_true.2 ⟨x,hx,hb⟩] at h; cases h
theorem drop_erase {L:Lg} {r s:Int} {i:Nat} (ha:ApL L) (hi:i<L.wait.length) (hat:atPl r s L.wait[i]=true):dropL L r s={ L with wait:=L.wait.eraseIdx i }:=by
 unfold dropL
 congr 1
 refine Go.ChangeMaps.filter_eq_eraseIdx (atPl r s) _ i L.wait[i] (List.getElem?_eq_getElem hi) hat ?_
 refine List.Pairwise.imp ?_ ha
 intro a b hab ⟨h1,h2⟩
 have e1:=atPl_iff.1 h1
 have e2:=atPl_iff.1 h2
 exact hab ⟨by rw [e1.1,e2.1],by rw [e1.2,e2.2]⟩
theorem ApL.drop {L:Lg} (h:ApL L) (r s:Int):ApL (dropL L r s):=List.Pairwise.sublist List.filter_sublist h
theorem ApL.enter {L:Lg} (h:ApL L) (x:Bat):ApL (enterL L x):=h
theorem take_drop_erase {α:Type} (l:List α) (i:Nat):l.take i ++ l.drop (i+1)=l.eraseIdx i:=(List.eraseIdx_eq_take_drop_succ l i).symm
def drq (b c i:Nat):Option Addr:=if c=i then some ⟨b,0,none⟩ else some ⟨b,i * 4,none⟩
theorem run_take_be (W:World) (b n c i:Nat) (hi:i≤c):(Instr.sliceAt 22 (.slice (some ⟨b,0,none⟩) n c) none (some (.int .i64 (i:Int))) none).run Tryz.prog W=.ok (.slice (some ⟨b,0,none⟩) i c) W:=by
 have hu:Tryz.prog.underlying 22=some (.slice (Tryz.prog.elem 22)):=by kernel_rfl
 have hs:(sizeOf (Tryz.prog.elem 22)).run Tryz.prog W=.ok 4 W:=by kernel_rfl
 rw [run_sliceAt_slice (h:=hu),run_slice_h (ht:=hu) (h0:=by omega) (h2:=by omega),hs]
 simp [Result.andThen_ok,sliced,Addr.add]
theorem run_drop_be (W:World) (b n c i:Nat) (hi:i≤n):(Instr.sliceAt 22 (.slice (some ⟨b,0,none⟩) n c) (some (.int .i64 (i:Int))) none none).run Tryz.prog W=.ok (.slice (drq b c i) (n - i) (c - i)) W:=by
 have hu:Tryz.prog.underlying 22=some (.slice (Tryz.prog.elem 22)):=by kernel_rfl
 have hs:(sizeOf (Tryz.prog.elem 22)).run Tryz.prog W=.ok 4 W:=by kernel_rfl
 rw [run_sliceAt_slice (h:=hu),run_slice_l (ht:=hu) (h0:=by omega) (h1:=by omega),hs]
 simp only [Result.andThen_ok,sliced,drq,Int.toNat_natCast]
 by_cases h:c=i
 ·simp [h]
 ·simp [h,Addr.add]
  intro e
  omega
theorem exec_take_be {a:Act} {w:World} {o:Oper} {x y:Operand} (ho:o.op=.slice 22 x none (some y) none) {b n c i:Nat} (hx:a.eval x=.slice (some ⟨b,0,none⟩) n c) (hy:a.eval y=.int .i64 (i:Int)) (hi:i≤c) :
  (execOp a.eval o).run Tryz.prog w=.ok (.value (.slice (some ⟨b,0,none⟩) i c)) w:=by
 unfold execOp
 simp only [ho,hx,hy,Option.map_some,Option.map_none,Sem.run_bind,run_take_be w b n c i hi,Result.andThen_ok,Sem.run_pure]
theorem exec_drop_be {a:Act} {w:World} {o:Oper} {x y:Operand} (ho:o.op=.slice 22 x (some y) none none) {b n c i:Nat} (hx:a.eval x=.slice (some ⟨b,0,none⟩) n c) (hy:a.eval y=.int .i64 (i:Int)) (hi:i≤n) :
  (execOp a.eval o).run Tryz.prog w=.ok (.value (.slice (drq b c i) (n - i) (c - i))) w:=by
 unfold execOp
 simp only [ho,hx,hy,Option.map_some,Option.map_none,Sem.run_bind,run_drop_be w b n c i hi,Result.andThen_ok,Sem.run_pure]
theorem rd_take_be {w:World} {b:Nat} {l:List Be} (h:Rd w (some ⟨b,0,none⟩) (beCells l)) (i:Nat):Rd w (some ⟨b,0,none⟩) (beCells (l.take i)):=by
 intro h0
 have hl:0<(beCells l).length:=by rw [beCells_length,List.length_take] at h0; rw [beCells_length]; omega
 obtain ⟨b',o,e,hc⟩:=h hl
 refine ⟨b',o,e,fun j u hu=>hc j u ?_⟩
 have hj:=(List.getElem?_eq_some_iff.1 hu).1
 have e2:beCells l=beCells (l.take i) ++ beCells (l.drop i):=by rw [← beCells_append,List.take_append_drop]
 rw [e2,List.getElem?_append_left hj]
 exact hu
theorem rd_drop_be {w:World} {b c:Nat} {l:List Be} (h:Rd w (some ⟨b,0,none⟩) (beCells l)) (i:Nat) (hc:l.length≤c):Rd w (drq b c i) (beCells (l.drop i)):=by
 intro h0
 have hil:i<l.length:=by rw [beCells_length,List.length_drop] at h0; omega
 have hl:0<(beCells l).length:=by rw [beCells_length]; omega
 obtain ⟨b',o,e,hcc⟩:=h hl
 cases e
 refine ⟨b,i * 4,by unfold drq; rw [if_neg (by omega)],fun j u hu=>?_⟩
 have h1:=hcc (i * 4+j) u (by rw [← beCells_drop,List.getElem?_drop] at hu; exact hu)
 rw [Nat.zero_add] at h1
 exact h1
def Rm.put (m:Rm) (r:Nat) (l:List Be) (p:Option Addr) (c:Nat):Rm :=
 {m with q:=fun k=>if k=r then p else m.q k,c:=fun k=>if k=r then c else m.c k,el:=fun k=>if k=r then l else m.el k }
def Rm.setW (m:Rm) (l:List Be) (p:Option Addr) (c:Nat):Rm:={ m with wq:=p,wc:=c,we:=l }
theorem Rm.put_v (m:Rm) (r:Nat) (l:List Be) (p:Option Addr) (c:Nat):(m.put r l p c).v=fun k=>if k=r then .slice p l.length c else m.v k:=by
 funext k
 by_cases h:k=r
 ·subst h; simp [Rm.put,Rm.v]
 ·simp [Rm.put,Rm.v,h]
theorem Rm.put_lg (m:Rm) (r:Nat) (l:List Be) (p:Option Addr) (c:Nat):(m.put r l p c).lg={ m.lg with row:=fun k=>if k=r then l.map (·.x) else m.lg.row k }:=by
 unfold Rm.lg Rm.put
 dsimp only
 congr 1
 funext k
 by_cases h:k=r <;> simp [h]
theorem Rm.put_enter (m:Rm) (r:Nat) (e:Be) (p:Option Addr) (c:Nat) (h:e.x.r.toNat=r):(m.put r (m.el r ++ [e]) p c).lg=enterL m.lg e.x:=by
 rw [Rm.put_lg]
 unfold enterL
 dsimp only
 congr 1
 funext k
 rw [h]
 by_cases hk:k=r
 ·subst hk; simp [Rm.lg]
 ·simp [hk]
theorem Rm.setW_lg (m:Rm) (l:List Be) (p:Option Addr) (c:Nat):(m.setW l p c).lg={ m.lg with wait:=l.map (·.x) }:=rfl
theorem rgA_size (v:Nat→Value) (u:Value):(rgA v u).size=17:=by simp [rgA,slL_length]
theorem rgA_set (v:Nat→Value) (u x:Value) (i:Nat) (h:i<16):(rgA v u).setIfInBounds i x=rgA (fun k=>if k=i then x else v k) u:=by
 apply Array.ext_getElem?
 intro j
 rw [Array.getElem?_setIfInBounds,rgA_size]
 by_cases hj:j<16
 ·rw [rgA_get _ _ j hj,rgA_get _ _ j hj]
  by_cases e:i=j
  ·subst e; simp; omega
  ·rw [if_neg e,if_neg (fun h=>e h.symm)]
 ·rw [if_neg (by omega)]
  by_cases e:j=16
  ·subst e; rw [rgA_wait,rgA_wait]
  ·rw [Array.getElem?_eq_none (by rw [rgA_size]; omega),Array.getElem?_eq_none (by rw [rgA_size]; omega)]
theorem rgA_setW (v:Nat→Value) (u x:Value):(rgA v u).setIfInBounds 16 x=rgA v x:=by
 apply Array.ext_getElem?
 intro j
 rw [Array.getElem?_setIfInBounds,rgA_size]
 by_cases hj:j<16
 ·rw [rgA_get _ _ j hj,rgA_get _ _ j hj,if_neg (by omega)]
 ·by_cases e:j=16
  ·subst e; simp [rgA_wait]
  ·rw [if_neg (by omega),Array.getElem?_eq_none (by rw [rgA_size]; omega),Array.getElem?_eq_none (by rw [rgA_size]; omega)]
section
variable {w w':World} {R:Nat} {m:Rm} {F G:Nat→Prop} {p p':Option Addr} {c c':Nat} {l:List Be}
theorem Rg.putR (h:Rg w R m G) {r:Nat} (hr:r<16) (hnew:RoB G w p c l):Rg (w.setCell ⟨R,r,none⟩ (.slice p l.length c)) R (m.put r l p c) G:=by
 have ht:=set_turns R w r (.slice p l.length c)
 have hG:∀ k,G k→¬ k=R:=fun k hk e=>h.nR (e ▸ hk)
 refine ⟨?_,fun k hk=>?_,h.wait.turns ht hG fun b hb=>(h.wof b hb).2,h.wof,h.nR,fun k hk=>by simpa using h.lt k hk⟩
 ·have:=AgAt.put h.st r (.slice p l.length c)
  rw [rgA_set _ _ _ _ hr,← Rm.put_v] at this
  exact this
 ·by_cases e:k=r
  ·subst e
   simp only [Rm.put,if_true]
   exact hnew.turns ht hG
  ·simp only [Rm.put,if_neg e]
   exact (h.row k hk).turns ht hG
theorem Rg.putW {u:Value} (hst:AgAt w R (rgA m.v u)) (hrow:∀ r,r<16→RoB G w (m.q r) (m.c r) (m.el r)) (hnew:ARow G w p c l) (hof:∀ b,(Value.slice p l.length c).ownBlock=some b→¬ G b∧b≠R) (hnR:¬ G R) (hlt:∀ k,G k→k<w.heap.size) :
  Rg (w.setCell ⟨R,16,none⟩ (.slice p l.length c)) R (m.setW l p c) G:=by
 have ht:=set_turns R w 16 (.slice p l.length c)
 have hG:∀ k,G k→¬ k=R:=fun k hk e=>hnR (e ▸ hk)
 refine ⟨?_,fun k hk=>(hrow k hk).turns ht hG,hnew.turns ht hG fun b hb=>(hof b hb).2,hof,hnR,fun k hk=>by simpa using hlt k hk⟩
 have:=AgAt.put hst 16 (.slice p l.length c)
 rw [rgA_setW] at this
 exact this
theorem Rg.gap {A:Nat→Prop} {e:Be} (h:Rg w R m F) (he:BopsF A w e.x e.p e.c) (hA:∀ k,A k→k<w.heap.size∧k≠R∧m.wv.ownBlock≠some k)
  (ho:w'.ownsRow 0 43 4 (.slice p' (m.we.length+1) c') (m.we.length+1) (beCells m.we ++ beL e)) (hg:w.grownBy w' m.wv.ownBlock)
  (hw:∀ g,(Value.slice p' (m.we.length+1) c').ownBlock=some g→m.wv.ownBlock=some g∨w.heap.size≤g) :
  Rg (w'.setCell ⟨R,16,none⟩ (.slice p' (m.we.length+1) c')) R (m.setW (m.we ++ [e]) p' c') (fun k=>F k∨A k)∧Turns (fun k=>k=R∨m.wv.ownBlock=some k) w (w'.setCell ⟨R,16,none⟩ (.slice p' (m.we.length+1) c'))∧AgAt w' R (rgA m.v m.wv):=by
 have hR:=AgAt.lt h.st
 have h1:=h.more (G:=fun k=>F k∨A k) (fun _ _ hk=>Or.inl hk) (fun hk=>hk.elim h.nR fun hk=>(hA R hk).2.1 rfl) (fun b hb hk=>hk.elim (h.wof b hb).1 fun hk=>(hA b hk).2.2 hb) (fun k hk=>hk.elim (h.lt k) fun hk=>(hA k hk).1)
 have ht:=Turns.of_grown hg
 have hst:AgAt w' R (rgA m.v m.wv):=h.st.block (hg.block R hR fun e=>(h.wof R e.symm).2 rfl)
 have hl:(m.we ++ [e]).length=m.we.length+1:=by simp
 have hp:=h1.wait.push (he.mono fun k _ hk=>⟨Or.inr hk,(hA k hk).2.2⟩) ho hg hw
 have hres:=Rg.putW (l:=m.we ++ [e]) (p:=p') (c:=c') hst (fun r hr=>(h1.row r hr).turns ht fun k hk hh=>(h1.wof k hh).1 hk) hp (fun b hb=>by
  rw [hl] at hb
  rcases hw b hb with h2 | h2
  ·exact h1.wof b h2
  ·exact ⟨fun hk=>by have:=h1.lt b hk; omega,by omega⟩) h1.nR fun k hk=>Nat.lt_of_lt_of_le (h1.lt k hk) hg.size
 rw [hl] at hres
 refine ⟨hres,?_,hst⟩
 exact (ht.mono fun k _ hk=>Or.inr hk).trans ((set_turns R w' 16 _).mono fun k _ hk=>Or.inl (Or.inl hk))
theorem rob_ext {F A:Nat→Prop} {w w9 w12 w13:World} {p p9 p13:Option Addr} {c c9 c13:Nat} {l:List Be} {e:Be} (hl:RoB F w p c l) (h9:Below w.heap.size w w9)
  (ho9:w9.ownsRow w.heap.size 43 4 (.slice p9 l.length c9) l.length (beCells l)) (h12:Below w9.heap.size w9 w12) (he:BopsF A w12 e.x e.p e.c) (hA:∀ k,A k→F k∨w9.heap.size≤k) (hlt:∀ k,F k→k<w.heap.size)
  (ho:w13.ownsRow w.heap.size 43 4 (.slice p13 (l.length+1) c13) (l.length+1) (beCells l ++ beL e)) (hg:w12.grownBy w13 (Value.slice p9 l.length c9).ownBlock) :
  RoB (fun k=>F k∨(w.heap.size≤k∧k<w13.heap.size)) w13 p13 c13 (l ++ [e])∧Below w.heap.size w w13:=by
 have hown:∀ g,(Value.slice p9 l.length c9).ownBlock=some g→w.heap.size≤g∧g<w9.heap.size:=fun g hg=>World.ownsRow.lt ho9 g hg
 have hz9:=h9.size
 have hz12:=h12.size
 have hb:Below w.heap.size w w13:=(h9.trans (h12.mono hz9)).trans ((Turns.of_grown hg).below (fun k _ hk=>(hown k hk).1) (by omega))
 have hle:(l ++ [e]).length=l.length+1:=by simp
 obtain ⟨p2,c2,e2,h1,h2,-,h3,h4⟩:=own_rd ho
 obtain ⟨rfl,rfl⟩:p13=p2∧c13=c2:=by cases e2; exact ⟨rfl,rfl⟩
 rw [← beCells_sing e,← beCells_append] at h1
 refine ⟨⟨h1,fun _ a ha=>⟨Or.inr ⟨(h4 a ha).1,(h4 a ha).2.1⟩,(h4 a ha).2.2.2⟩,fun b hb2=>?_,by rw [hle]; exact h2,h3⟩,hb⟩
 rcases List.mem_append.1 hb2 with hb2 | hb2
 ·exact ((hl.ops b hb2).below hb).mono fun k _ hk=>Or.inl hk
 ·obtain rfl:b=e:=by simpa using hb2
  have:=he.turns (Turns.of_grown hg) fun k hk hh=>by
   have h5:=hown k hh
   rcases hA k hk with h6 | h6
   ·have:=hlt k h6; omega
   ·omega
  refine this.mono fun k hkk hk=>?_
  rcases hA k hk with h6 | h6
  ·exact Or.inl h6
  ·exact Or.inr ⟨by omega,hkk⟩
end
def RAdded (R:Nat) (F:Nat→Prop) (m:Rm) (x:Bat) (w:World) (e:Ending) (w':World):Prop :=
 ∃ (m':Rm) (G:Nat→Prop) (po:Option Addr) (co:Nat) (lo:List Be),e=.returned (.tuple #[.slice po lo.length co,.int .i64 (addL m.lg x).2.2])∧Rg w' R m' G∧m'.lg=(addL m.lg x).1 ∧
  lo.map (·.x)=(addL m.lg x).2.1∧Rd w' po (beCells lo)∧(∀ e,e ∈ lo→Bops w' e.x e.p e.c)∧Turns (fun k=>k=R∨m.wv.ownBlock=some k) w w'∧(∀ k,G k→F k∨w.heap.size≤k) ∧
  (∀ k,m'.wv.ownBlock=some k→m.wv.ownBlock=some k∨w.heap.size≤k)
structure RaI (R:Nat) (m:Rm) (F:Nat→Prop) (x:Bat) (p:Option Addr) (c:Nat) (w0 w:World):Prop where
 rg:Rg w R m F
 bx:BtAt w w0.heap.size x p c
 bo:BopsF (fun k=>k≠R∧m.wv.ownBlock≠some k) w x p c
 bel:Below w0.heap.size w0 w
 lt:∀ k,F k→k<w0.heap.size
 lR:R<w0.heap.size
 lW:∀ k,m.wv.ownBlock=some k→k<w0.heap.size
section
variable {R:Nat} {m:Rm} {F:Nat→Prop} {x:Bat} {p:Option Addr} {c:Nat} {w0 w w':World}
theorem RaI.kept (h:RaI R m F x p c w0 w) (hb:Below w.heap.size w w'):RaI R m F x p c w0 w' :=
 ⟨h.rg.kept hb,AgAt.kept h.bx hb,h.bo.below hb,h.bel.trans (hb.mono h.bel.size),h.lt,h.lR,h.lW⟩
theorem RaI.no {n:Int} (h:RaI R m F x p c w0 w) (ha:addL m.lg x=(m.lg,[],n)):RAdded R F m x w0 (.returned (noB n)) w:=by
 refine ⟨m,F,none,0,[],?_,h.rg,by rw [ha],by rw [ha]; rfl,Rd.nil _ _,fun _ h=>(by cases h),Turns.of_below h.bel,fun _ hk=>Or.inl hk,fun _ hk=>Or.inl hk⟩
 rw [ha]; rfl
end
open Go.RowKit
theorem Rg.entered {w w':World} {R:Nat} {m:Rm} {F:Nat→Prop} {r:Nat} {e:Be} {p:Option Addr} {c:Nat} (h:Rg w R m F) (hr:r<16) (hb:Below w.heap.size w w')
  (hrow:RoB (fun k=>F k∨(w.heap.size≤k∧k<w'.heap.size)) w' p c (m.el r ++ [e])) :
  Rg (w'.setCell ⟨R,r,none⟩ (.slice p ((m.el r).length+1) c)) R (m.put r (m.el r ++ [e]) p c) (fun k=>F k∨(w.heap.size≤k∧k<w'.heap.size)):=by
 have hR:=h.slt
 have hsz:=hb.size
 have h1:=(h.kept hb).more (G:=fun k=>F k∨(w.heap.size≤k∧k<w'.heap.size)) (fun _ _ hk=>Or.inl hk) (fun hk=>hk.elim h.nR fun hk=>by omega)
  (fun b hb2 hk=>hk.elim (h.wof b hb2).1 fun hk=>by have:=h.wait.lt hb2; omega) (fun k hk=>hk.elim (fun h2=>Nat.lt_of_lt_of_le (h.lt k h2) hsz) fun h2=>h2.2)
 have h2:=h1.putR hr hrow
 rw [show (m.el r ++ [e]).length=(m.el r).length+1 from by simp] at h2
 exact h2
structure ReS (R:Nat) (F0 W0:Nat→Prop) (w0:World) (m:Rm) (F:Nat→Prop) (p:Option Addr) (c:Nat) (lo:List Be) (w:World):Prop where
 rg:Rg w R m F
 out:ARow (fun k=>k≠R) w p c lo
 of:∀ b,(Value.slice p lo.length c).ownBlock=some b→w0.heap.size≤b∧¬ F b∧b≠R∧m.wv.ownBlock≠some b
 sub:∀ k,F k→F0 k∨w0.heap.size≤k
 wsub:∀ k,m.wv.ownBlock=some k→W0 k∨w0.heap.size≤k
 turns:Turns (fun k=>k=R∨W0 k) w0 w
section
variable {R:Nat} {F0 W0:Nat→Prop} {w0 w w':World} {m:Rm} {F:Nat→Prop} {p p':Option Addr} {c c':Nat} {lo l:List Be}
theorem ReS.kept (h:ReS R F0 W0 w0 m F p c lo w) (hb:Below w.heap.size w w'):ReS R F0 W0 w0 m F p c lo w' :=
 ⟨h.rg.kept hb,h.out.kept hb,h.of,h.sub,h.wsub,h.turns.trans (Turns.of_below hb)⟩
theorem ReS.fresh (h:ReS R F0 W0 w0 m F p c lo w) (hb:Below w.heap.size w w') (hn:ARow (fun k=>k≠R) w' p' c' l) (hof:∀ b,(Value.slice p' l.length c').ownBlock=some b→w.heap.size≤b):ReS R F0 W0 w0 m F p' c' l w':=by
 have hsz:=h.turns.size
 refine ⟨h.rg.kept hb,hn,fun b hb2=>?_,h.sub,h.wsub,h.turns.trans (Turns.of_below hb)⟩
 have h1:=hof b hb2
 have h2:=h.rg.slt
 exact ⟨by omega,fun hk=>by have:=h.rg.lt b hk; omega,by omega,fun hk=>by have:=h.rg.wait.lt hk; omega⟩
theorem ReS.entered {r:Nat} {e:Be} (h:ReS R F0 W0 w0 m F p c lo w) (hr:r<16) (hb:Below w.heap.size w w') (hrow:RoB (fun k=>F k∨(w.heap.size≤k∧k<w'.heap.size)) w' p' c' (m.el r ++ [e])) :
  ReS R F0 W0 w0 (m.put r (m.el r ++ [e]) p' c') (fun k=>F k∨(w.heap.size≤k∧k<w'.heap.size)) p c lo (w'.setCell ⟨R,r,none⟩ (.slice p' ((m.el r).length+1) c')):=by
 have hsz:=h.turns.size
 have ht:=set_turns R w' r (.slice p' ((m.el r).length+1) c')
 refine ⟨h.rg.entered hr hb hrow,(h.out.kept hb).turns ht (fun k hk=>hk) fun b hb2=>(h.of b hb2).2.2.1,fun b hb2=>?_,fun k hk=>?_,h.wsub,(h.turns.trans (Turns.of_below hb)).trans (ht.mono fun k _ hk=>Or.inl (Or.inl hk))⟩
 ·have h1:=h.of b hb2
  have h2:=h.out.lt hb2
  exact ⟨h1.1,fun hk=>hk.elim h1.2.1 fun hk=>by omega,h1.2.2⟩
 ·rcases hk with hk | hk
  ·exact h.sub k hk
  ·exact Or.inr (by omega)
theorem ReS.setW (h:ReS R F0 W0 w0 m F p c lo w) (hb:Below w.heap.size w w') (hn:ARow F w' p' c' l) (hof:∀ b,(Value.slice p' l.length c').ownBlock=some b→w.heap.size≤b) {n:Nat} (hl:l.length=n) :
  ReS R F0 W0 w0 (m.setW l p' c') F p c lo (w'.setCell ⟨R,16,none⟩ (.slice p' n c')):=by
 subst hl
 have hsz:=h.turns.size
 have hR:=h.rg.slt
 have ht:=set_turns R w' 16 (.slice p' l.length c')
 have h1:=h.rg.kept hb
 refine ⟨Rg.putW h1.st h1.row hn (fun b hb2=>?_) h1.nR h1.lt,(h.out.kept hb).turns ht (fun k hk=>hk) fun b hb2=>(h.of b hb2).2.2.1,fun b hb2=>?_,h.sub,fun k hk=>?_,(h.turns.trans (Turns.of_below hb)).trans (ht.mono fun k _ hk=>Or.inl (Or.inl hk))⟩
 ·have h3:=hof b hb2
  exact ⟨fun hk=>by have:=h.rg.lt b hk; omega,by omega⟩
 ·have h2:=h.of b hb2
  have h3:=h.out.lt hb2
  exact ⟨h2.1,h2.2.1,h2.2.2.1,fun hk=>by have:=hof b hk; omega⟩
 ·exact Or.inr (by have:=hof k hk; omega)
theorem ReS.push {e:Be} (h:ReS R F0 W0 w0 m F p c lo w) (he:BopsF (fun k=>k≠R∧(Value.slice p lo.length c).ownBlock≠some k) w e.x e.p e.c)
  (ho:w'.ownsRow 0 43 4 (.slice p' (lo.length+1) c') (lo.length+1) (beCells lo ++ beL e)) (hg:w.grownBy w' (Value.slice p lo.length c).ownBlock)
  (hw:∀ g,(Value.slice p' (lo.length+1) c').ownBlock=some g→(Value.slice p lo.length c).ownBlock=some g∨w.heap.size≤g):ReS R F0 W0 w0 m F p' c' (lo ++ [e]) w':=by
 have hsz:=h.turns.size
 have hR:=h.rg.slt
 have ht:=Turns.of_grown hg
 refine ⟨h.rg.turns ht (fun k hk hh=>(h.of k hh).2.1 hk) (fun hh=>(h.of R hh).2.2.1 rfl) (fun b hb2 hh=>(h.of b hh).2.2.2 hb2),h.out.push he ho hg hw,fun b hb2=>?_,h.sub,h.wsub,h.turns.trans (ht.mono fun k _ hk=>Or.inr (h.of k hk).1)⟩
 rw [show (lo ++ [e]).length=lo.length+1 from by simp] at hb2
 rcases hw b hb2 with h1 | h1
 ·exact h.of b h1
 ·exact ⟨by omega,fun hk=>by have:=h.rg.lt b hk; omega,by omega,fun hk=>by have:=h.rg.wait.lt hk; omega⟩
end
theorem RaI.reS {R:Nat} {m:Rm} {F:Nat→Prop} {x:Bat} {p:Option Addr} {c:Nat} {w0 w:World} (h:RaI R m F x p c w0 w):ReS R F (fun k=>m.wv.ownBlock=some k) w0 m F none 0 [] w :=
 ⟨h.rg,ARow.nil _ _,fun b hb=>(by cases hb),fun _ hk=>Or.inl hk,fun _ hk=>Or.inl hk,Turns.of_below h.bel⟩
theorem ReS.done {R:Nat} {m m':Rm} {F G:Nat→Prop} {x:Bat} {w0 w:World} {p:Option Addr} {c:Nat} {lo:List Be} (h:ReS R F (fun k=>m.wv.ownBlock=some k) w0 m' G p c lo w)
  (hl:m'.lg=(addL m.lg x).1) (ho:lo.map (·.x)=(addL m.lg x).2.1) (hc:(addL m.lg x).2.2=0):RAdded R F m x w0 (.returned (.tuple #[.slice p lo.length c,.int .i64 0])) w :=
 ⟨m',G,p,c,lo,by rw [hc],h.rg,hl,ho,h.out.rd.1,fun e he=>(h.out.ops e he).bops,h.turns,h.sub,h.wsub⟩
structure ReL (R r n0:Nat) (F0 W0:Nat→Prop) (w0:World) (L1:Lg) (g:Nat) (m:Rm) (F:Nat→Prop) (p:Option Addr) (c:Nat) (lo:List Be) (w:World):Prop where
 re:ReS R F0 W0 w0 m F p c lo w
 ok:LgOk m.lg
 ap:ApL m.lg
 eq:followL g m.lg r=L1
 fuel:m.we.length<g
 olg:lo.map (·.x)=(m.lg.row r).drop n0
 ln:n0≤(m.el r).length
section
variable {R:Nat} {m:Rm} {F A:Nat→Prop} {x:Bat} {p p' p6:Option Addr} {c c' c6:Nat} {w0 w w':World}
theorem RaI.gap (h:RaI R m F x p c w0 w) (he:BopsF A w x p6 c6) (hA:∀ k,A k→w0.heap.size≤k∧k<w.heap.size)
  (ho:w'.ownsRow 0 43 4 (.slice p' (m.we.length+1) c') (m.we.length+1) (beCells m.we ++ beL ⟨x,p6,c6⟩)) (hg:w.grownBy w' m.wv.ownBlock)
  (hw:∀ g,(Value.slice p' (m.we.length+1) c').ownBlock=some g→m.wv.ownBlock=some g∨w.heap.size≤g) (ha:addL m.lg x=({ m.lg with wait:=m.lg.wait ++ [x] },[],33)) :
  RAdded R F m x w0 (.returned (noB 33)) (w'.setCell ⟨R,16,none⟩ (.slice p' (m.we.length+1) c'))∧AgAt w' R (rgA m.v m.wv):=by
 have hsz:=h.bel.size
 have hl:(m.we ++ [(⟨x,p6,c6⟩:Be)]).length=m.we.length+1:=by simp
 obtain ⟨h1,h2,h3⟩:=h.rg.gap (e:=⟨x,p6,c6⟩) he (fun k hk=>⟨(hA k hk).2,fun e=>by have:=(hA k hk).1; have:=h.lR; omega,fun e=>by have:=(hA k hk).1; have:=h.lW k e; omega⟩) ho hg hw
 refine ⟨⟨_,_,none,0,[],by rw [ha]; rfl,h1,by rw [ha,Rm.setW_lg]; simp [Rm.lg],by rw [ha]; rfl,Rd.nil _ _,fun _ h=>(by cases h),(Turns.of_below h.bel).trans (h2.mono fun k _ hk=>Or.inl hk),fun k hk=>hk.elim Or.inl fun h=>Or.inr (hA k h).1,fun k hk=>?_⟩,h3⟩
 have hk':(Value.slice p' (m.we ++ [(⟨x,p6,c6⟩:Be)]).length c').ownBlock=some k:=hk
 rw [hl] at hk'
 rcases hw k hk' with h4 | h4
 ·exact Or.inl h4
 ·exact Or.inr (by omega)
theorem RaI.box (h:RaI R m F x p c w0 w) (r:Nat) (v:Value):BtAt (w.setCell ⟨R,r,none⟩ v) w0.heap.size x p c∧BopsF (fun k=>k≠R∧m.wv.ownBlock≠some k) (w.setCell ⟨R,r,none⟩ v) x p c :=
 ⟨AgAt.block h.bx (heap_setCell_other _ _ _ _ (by have:=h.lR; simp; omega)),h.bo.turns (set_turns R w r v) fun k hk=>hk.1⟩
theorem ReS.one {F0 W0 G:Nat→Prop} {m:Rm} (h:ReS R F0 W0 w0 m G none 0 [] w) (hbo:BopsF A w x p c) (hA:∀ k,A k→k≠R) :
  ReS R F0 W0 w0 m G (some ⟨w.heap.size,0,none⟩) 1 [⟨x,p,c⟩] (w.alloc (.cells (btA x p c) 43)):=by
 have hb:=(Below.refl w.heap.size w).alloc (Nat.le_refl _) (.cells (btA x p c) 43)
 have ho:=World.ownsRow_lit (base:=0) (e:=43) (size:=4) w (btA x p c) 1 (Nat.zero_le _) (by simp [maxLen]) rfl
 refine h.fresh hb ⟨ho,fun e he=>?_⟩ fun b hb2=>by cases hb2; exact Nat.le_refl _
 obtain rfl:e=⟨x,p,c⟩:=by simpa using he
 exact (hbo.mono (G:=fun k=>k≠R∧(Value.slice (some ⟨w.heap.size,0,none⟩) 1 1).ownBlock≠some k) fun k hk h1=>⟨hA k h1,fun e=>by cases e; exact Nat.lt_irrefl _ hk⟩).below hb
end
theorem beOf_map {l:List Be} {i:Nat} (h:i<l.length):(l.map (·.x))[i]'(by simpa using h)=(beOf l i).x:=by simp [beOf,h]
theorem Rm.erased {m:Rm} {r:Nat} {s:Int} {i:Nat} (ha:ApL m.lg) (hi:i<m.we.length) (hat:atPl (r:Int) s (beOf m.we i).x=true) (q:Option Addr) (d:Nat):(m.setW (m.we.eraseIdx i) q d).lg=dropL m.lg (r:Int) s:=by
 have hi':i<m.lg.wait.length:=by simpa [Rm.lg] using hi
 have hat':atPl (r:Int) s (m.lg.wait[i])=true:=(congrArg (atPl (r:Int) s) (beOf_map hi)).trans hat
 rw [drop_erase ha hi' hat',Rm.setW_lg]
 unfold Rm.lg
 dsimp only
 rw [Go.ChangeMaps.map_eraseIdx]
end Go.Proofs.YtfgnmnkihbgjnaaGreat
