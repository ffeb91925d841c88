/-
  TWO LOGS SIDE BY SIDE, each with the document's ('Duo'); what the law's loop carries; scribbling over an answer.
  No conditions.
-/
import Derived.Test.YtfgnmnkihbgjnaaGreatRgAdd
import Derived.Test.YtfgnmnkihbgjnaaGreatRgSame
import Derived.Test.YtfgnmnkihbgjnaaGreatHF
import Derived.Test.YtfgnmnkihbgjnaaGreatGR
namespace Go.Proofs.YtfgnmnkihbgjnaaGreat
open Go.RowKit
theorem apL_of {w:World} {S M:Nat} {m:Sm} {F:Nat→Prop} (h:St w S M m F):ApL m.lg:=List.pairwise_map.2 h.map.apart
theorem SeqOk.congr {L L':Lg} (h:SeqOk L) (hr:∀ r,r<16→L.row r=L'.row r):SeqOk L':=fun r h1=>by rw [← hr r h1]; exact h r h1
structure Duo (A Q:Nat→Prop) (n l S M:Nat) (m:Sm) (R:Nat) (d:Rm) (w:World):Prop where
 lo:∃ F,Lo w l S M m F∧∀ k,F k→A k
 al:A l
 rg:∃ G,Rg w R d G∧∀ k,G k→Q k
 qR:Q R
 qW:∀ k,d.wv.ownBlock=some k→Q k
 lg:d.lg=m.lg
 sq:SeqOk m.lg
 cnt:CntOk 20 n m.lg
 apart:∀ k,A k→¬ Q k
 ltA:∀ k,A k→k<w.heap.size
 ltQ:∀ k,Q k→k<w.heap.size
section
variable {A Q:Nat→Prop} {n l S M R:Nat} {m:Sm} {d:Rm} {w w':World}
theorem Duo.turns {G:Nat→Prop} (h:Duo A Q n l S M m R d w) (ht:Turns G w w') (hA:∀ k,A k→¬ G k) (hQ:∀ k,Q k→¬ G k):Duo A Q n l S M m R d w':=by
 obtain ⟨F,hF,hFA⟩:=h.lo
 obtain ⟨E,hE,hEQ⟩:=h.rg
 have hz:=ht.size
 exact ⟨⟨F,hF.turns ht (fun k hk=>hA k (hFA k hk)) (hA l h.al),hFA⟩,h.al,⟨E,hE.turns ht (fun k hk=>hQ k (hEQ k hk)) (hQ R h.qR) (fun b hb=>hQ b (h.qW b hb)),hEQ⟩,h.qR,h.qW,h.lg,h.sq,h.cnt,h.apart,fun k hk=>Nat.lt_of_lt_of_le (h.ltA k hk) hz,fun k hk=>Nat.lt_of_lt_of_le (h.ltQ k hk) hz⟩
theorem Duo.kept (h:Duo A Q n l S M m R d w) (hb:Below w.heap.size w w'):Duo A Q n l S M m R d w':=h.turns (G:=fun _=>False) (Turns.of_below hb) (fun _ _ h=>h) fun _ _ h=>h
theorem Duo.more (h:Duo A Q n l S M m R d w) {n':Nat} (hn:n≤n'):Duo A Q n' l S M m R d w:={ h with cnt:=h.cnt.mono hn }
theorem Duo.ok (h:Duo A Q n l S M m R d w):LgOk m.lg:=by
 obtain ⟨F,hF,-⟩:=h.lo
 exact hF.ok
theorem Duo.ap (h:Duo A Q n l S M m R d w):ApL m.lg:=by
 obtain ⟨F,hF,-⟩:=h.lo
 exact apL_of hF.st
theorem Duo.okd (h:Duo A Q n l S M m R d w):LgOk d.lg∧ApL d.lg:=by rw [h.lg]; exact ⟨h.ok,h.ap⟩
theorem Duo.wlen (h:Duo A Q n l S M m R d w):m.lg.wait.length=d.we.length:=by rw [← h.lg]; simp [Rm.lg]
theorem Duo.ents (h:Duo A Q n l S M m R d w) (hn:n≤60):(entA m.lg).length≤1500:=by have:=h.cnt.ents; omega
theorem Duo.rgAt {F E:Nat→Prop} (h:Duo A Q n l S M m R d w) (hE:Rg w R d E) (hEQ:∀ k,E k→Q k) (ht:Turns F w w') (hFA:∀ k,F k→A k):Rg w' R d E :=
 hE.turns ht (fun k hk hF=>h.apart k (hFA k hF) (hEQ k hk)) (fun hF=>h.apart R (hFA R hF) h.qR) fun b hb hF=>h.apart b (hFA b hF) (h.qW b hb)
theorem Duo.both {x:Bat} {w1 w2:World} {F E F' E':Nat→Prop} {m':Sm} {d':Rm} {n1:Nat} (h:Duo A Q n l S M m R d w) (hFA:∀ k,F k→A k) (hEQ:∀ k,E k→Q k)
  (hx:rightT x=true→OkB x) (hb:x.ops.length≤20) (hlo:Lo w1 l S M m' F') (hF':∀ k,F' k→F k∨(w.heap.size≤k∧k<n1)) (hlg:m'.lg=(addL m.lg x).1) (hn1:n1≤w1.heap.size) (ht1:Turns F w w1)
  (hrg:Rg w2 R d' E') (hdg:d'.lg=(addL d.lg x).1) (ht2:Turns (fun k=>k=R∨d.wv.ownBlock=some k) w1 w2) (hE':∀ k,E' k→E k∨w1.heap.size≤k) (hW':∀ k,d'.wv.ownBlock=some k→d.wv.ownBlock=some k∨w1.heap.size≤k) :
  Duo (fun k=>A k∨(w.heap.size≤k∧k<n1)) (fun k=>Q k∨(w1.heap.size≤k∧k<w2.heap.size)) (n+1) l S M m' R d' w2:=by
 have hz1:=ht1.size
 have hz2:=ht2.size
 have hT:∀ k,(k=R∨d.wv.ownBlock=some k)→Q k:=fun k hk=>hk.elim (fun e=>by rw [e]; exact h.qR) (h.qW k)
 have hA':∀ k,(A k∨(w.heap.size≤k∧k<n1))→¬ (k=R∨d.wv.ownBlock=some k):=fun k hk hq=>by
  have h1:=hT k hq
  have h2:=h.ltQ k h1
  exact hk.elim (fun h3=>h.apart k h3 h1) fun h3=>by omega
 have hFA':∀ k,F' k→(A k∨(w.heap.size≤k∧k<n1)):=fun k hk=>(hF' k hk).imp (hFA k) id
 refine ⟨⟨F',hlo.turns ht2 (fun k hk=>hA' k (hFA' k hk)) (hA' l (Or.inl h.al)),hFA'⟩,Or.inl h.al,⟨E',hrg,fun k hk=>?_⟩,Or.inl h.qR,fun k hk=>?_,by rw [hdg,h.lg,hlg],?_,?_,fun k hk hq=>?_,fun k hk=>?_,fun k hk=>?_⟩
 ·rcases hE' k hk with h1 | h1
  ·exact Or.inl (hEQ k h1)
  ·exact Or.inr ⟨h1,hrg.lt k hk⟩
 ·rcases hW' k hk with h1 | h1
  ·exact Or.inl (h.qW k h1)
  ·exact Or.inr ⟨h1,hrg.wait.lt hk⟩
 ·rw [hlg]; exact h.sq.add h.ok hx
 ·rw [hlg]; exact h.cnt.add h.ok hx hb
 ·rcases hk with hk | hk <;> rcases hq with hq | hq
  ·exact h.apart k hk hq
  ·have:=h.ltA k hk; omega
  ·have:=h.ltQ k hq; omega
  ·omega
 ·rcases hk with hk | hk
  ·have:=h.ltA k hk; omega
  ·omega
 ·rcases hk with hk | hk
  ·have:=h.ltQ k hk; omega
  ·exact hk.2
end
structure Pl (w0:World) (l S M R l2 S2 M2 R2 k k2:Nat) (m:Sm) (d:Rm) (m2:Sm) (d2:Rm) (A Q A2 Q2:Nat→Prop) (w:World):Prop where
 one:Duo A Q k l S M m R d w
 two:Duo A2 Q2 k2 l2 S2 M2 m2 R2 d2 w
 sep:∀ k,(A k∨Q k)→¬ (A2 k∨Q2 k)
 ge:∀ k,(A k∨Q k)∨A2 k∨Q2 k→w0.heap.size≤k
 bel:Below w0.heap.size w0 w
section
variable {w0 w w':World} {l S M R l2 S2 M2 R2 k k2:Nat} {m m':Sm} {d d':Rm} {m2:Sm} {d2:Rm} {A Q A2 Q2 A' Q':Nat→Prop}
theorem Pl.kept (h:Pl w0 l S M R l2 S2 M2 R2 k k2 m d m2 d2 A Q A2 Q2 w) (hb:Below w.heap.size w w'):Pl w0 l S M R l2 S2 M2 R2 k k2 m d m2 d2 A Q A2 Q2 w' :=
 ⟨h.one.kept hb,h.two.kept hb,h.sep,h.ge,h.bel.trans (hb.mono h.bel.size)⟩
theorem Pl.turns {G:Nat→Prop} (h:Pl w0 l S M R l2 S2 M2 R2 k k2 m d m2 d2 A Q A2 Q2 w) (ht:Turns G w w') (hG:∀ k,G k→w0.heap.size≤k∧¬ ((A k∨Q k)∨A2 k∨Q2 k)):Pl w0 l S M R l2 S2 M2 R2 k k2 m d m2 d2 A Q A2 Q2 w' :=
 ⟨h.one.turns ht (fun k hk hg=>(hG k hg).2 (Or.inl (Or.inl hk))) fun k hk hg=>(hG k hg).2 (Or.inl (Or.inr hk)),h.two.turns ht (fun k hk hg=>(hG k hg).2 (Or.inr (Or.inl hk))) fun k hk hg=>(hG k hg).2 (Or.inr (Or.inr hk)),h.sep,h.ge,
  h.bel.trans (ht.below (fun k _ hk=>(hG k hk).1) h.bel.size)⟩
theorem Pl.first (h:Pl w0 l S M R l2 S2 M2 R2 k k2 m d m2 d2 A Q A2 Q2 w) (h':Duo A' Q' (k+1) l S M m' R d' w') (ht:Turns (fun k=>A k∨Q k) w w') (hA:∀ k,A' k→A k∨w.heap.size≤k) (hQ:∀ k,Q' k→Q k∨w.heap.size≤k) :
  Pl w0 l S M R l2 S2 M2 R2 (k+1) k2 m' d' m2 d2 A' Q' A2 Q2 w':=by
 have hw:=h.bel.size
 refine ⟨h',h.two.turns ht (fun k hk hg=>h.sep k hg (Or.inl hk)) fun k hk hg=>h.sep k hg (Or.inr hk),fun k hk h2=>?_,fun k hk=>?_,h.bel.trans (ht.below (fun k _ hk=>h.ge k (Or.inl hk)) hw)⟩
 ·have hl:k<w.heap.size:=h2.elim (h.two.ltA k) (h.two.ltQ k)
  rcases hk with hk | hk
  ·exact (hA k hk).elim (fun h1=>h.sep k (Or.inl h1) h2) fun h1=>by omega
  ·exact (hQ k hk).elim (fun h1=>h.sep k (Or.inr h1) h2) fun h1=>by omega
 ·rcases hk with (hk | hk) | hk
  ·exact (hA k hk).elim (fun h1=>h.ge k (Or.inl (Or.inl h1))) fun h1=>by omega
  ·exact (hQ k hk).elim (fun h1=>h.ge k (Or.inl (Or.inr h1))) fun h1=>by omega
  ·exact h.ge k (Or.inr hk)
theorem Pl.swap (h:Pl w0 l S M R l2 S2 M2 R2 k k2 m d m2 d2 A Q A2 Q2 w):Pl w0 l2 S2 M2 R2 l S M R k2 k m2 d2 m d A2 Q2 A Q w :=
 ⟨h.two,h.one,fun k h1 h2=>h.sep k h2 h1,fun k hk=>h.ge k hk.symm,h.bel⟩
theorem Pl.more (h:Pl w0 l S M R l2 S2 M2 R2 k k2 m d m2 d2 A Q A2 Q2 w) {k' k2':Nat} (hk:k≤k') (hk2:k2≤k2'):Pl w0 l S M R l2 S2 M2 R2 k' k2' m d m2 d2 A Q A2 Q2 w:=⟨h.one.more hk,h.two.more hk2,h.sep,h.ge,h.bel⟩
theorem Pl.second (h:Pl w0 l S M R l2 S2 M2 R2 k k2 m d m2 d2 A Q A2 Q2 w) {m2':Sm} {d2':Rm} {A2' Q2':Nat→Prop} (h':Duo A2' Q2' (k2+1) l2 S2 M2 m2' R2 d2' w') (ht:Turns (fun k=>A2 k∨Q2 k) w w') (hA:∀ k,A2' k→A2 k∨w.heap.size≤k) (hQ:∀ k,Q2' k→Q2 k∨w.heap.size≤k) :
  Pl w0 l S M R l2 S2 M2 R2 k (k2+1) m d m2' d2' A Q A2' Q2' w':=(h.swap.first h' ht hA hQ).swap
end
theorem rgA_zero:rgA Rm.zero.v Rm.zero.wv=rgA (fun _=>.slice none 0 0) (.slice none 0 0):=rfl
theorem Rg.made (w:World) (T:TypeId):Rg (w.alloc (.cells (rgA (fun _=>.slice none 0 0) (.slice none 0 0)) T)) w.heap.size Rm.zero (fun _=>False) :=
 ⟨by rw [rgA_zero]; exact AgAt.new w _ T,fun _ _=>RoB.empty _ _,ARow.nil _ _,fun _ h=>(by cases h),fun h=>h,fun _ h=>h.elim⟩
theorem Duo.made {l S M R:Nat} {m:Sm} {F A:Nat→Prop} {w:World} (h:Lo w l S M m F) (hz:m.lg=Lg.zero) (hF:∀ k,F k→A k) (hl:A l) (hr:Rg w R Rm.zero (fun _=>False)) (hR:¬ A R) (hA:∀ k,A k→k<w.heap.size):Duo A (fun k=>k=R) 0 l S M m R Rm.zero w :=
 ⟨⟨F,h,hF⟩,hl,⟨_,hr,fun _ h=>h.elim⟩,rfl,fun _ h=>(by cases h),by rw [hz]; rfl,by rw [hz]; exact SeqOk.zero,by rw [hz]; exact CntOk.zero 20,fun k hk e=>hR (e ▸ hk),hA,fun k e=>by rw [e]; exact hr.slt⟩
theorem BopsF.ofB {w:World} {x:Bat} {p:Option Addr} {c:Nat} (h:Bops w x p c):BopsF (fun k=>k<w.heap.size) w x p c:=by
 obtain ⟨l,h⟩:=h
 refine ⟨l,h,fun h0 a ha=>?_,fun e he h0 a ha=>?_⟩
 ·obtain ⟨b,o,e,hb⟩:=h.rd.addr (by rw [enCells_length,h.len]; omega)
  rw [ha] at e; cases e
  exact hb
 ·obtain ⟨b,o,e',hb⟩:=(h.pa e he).rd.addr (by rw [stCells_length]; omega)
  rw [ha] at e'; cases e'
  exact hb
structure Scr (Z:Nat→Prop) (la:List Be) (w1 w:World):Prop where
 turns:Turns Z w1 w
 each:∀ e,e ∈ la→∃ b o u,e.p=some ⟨b,o,none⟩∧Z b∧w.cell? ⟨b,o,none⟩=some u∧w.frozen? ⟨b,o,none⟩=false
theorem Scr.start {Z:Nat→Prop} {la:List Be} {w:World} (h:∀ e,e ∈ la→BopsF Z w e.x e.p e.c) (hu:∀ e,e ∈ la→UnfB w e) (h0:∀ e,e ∈ la→0<e.x.ops.length):Scr Z la w w:=by
 refine ⟨Turns.refl _ _,fun e he=>?_⟩
 obtain ⟨l,h1,h2,-⟩:=h e he
 have h3:=h0 e he
 have hl:0<(enCells l).length:=by rw [enCells_length,h1.len]; omega
 obtain ⟨b,o,e1,hc⟩:=h1.rd hl
 have hc0:=hc 0 _ (List.getElem?_eq_getElem hl)
 rw [Nat.add_zero] at hc0
 exact ⟨b,o,_,e1,h2 h3 _ e1,hc0,hu e he h3 _ e1 o⟩
theorem Scr.step {Z:Nat→Prop} {la:List Be} {w1 w:World} (h:Scr Z la w1 w) {b o:Nat} {u v:Value} (hb:Z b) (hc:w.cell? ⟨b,o,none⟩=some u):Scr Z la w1 (w.setCell ⟨b,o,none⟩ v):=by
 refine ⟨h.turns.trans ((set_turns b w o v).mono fun k _ hk=>Or.inl (by rw [hk]; exact hb)),fun e he=>?_⟩
 obtain ⟨b',o',u',h1,h2,h3,h4⟩:=h.each e he
 by_cases e1:(⟨b,o,none⟩:Addr)=⟨b',o',none⟩
 ·exact ⟨b',o',v,h1,h2,by rw [← e1]; exact qcell_same hc,by rw [World.frozen?_setCell]; exact h4⟩
 ·exact ⟨b',o',u',h1,h2,by rw [qcell_other e1]; exact h3,by rw [World.frozen?_setCell]; exact h4⟩
theorem URow.turns {B:Nat} {w w':World} {p:Option Addr} {c:Nat} {l:List Be} {G:Nat→Prop} (h:URow B w p c l) (ht:Turns G w w') (hG:∀ k,G k→k<B):URow B w' p c l :=
 ⟨h.1.turns ht hG,fun e he=>(h.2 e he).turns (h.1.ops e he) ht fun k hk hg=>by have:=hG k hg; omega⟩
theorem URow.kept {B:Nat} {w w':World} {p:Option Addr} {c:Nat} {l:List Be} (h:URow B w p c l) (hb:Below w.heap.size w w'):URow B w' p c l :=
 ⟨h.1.kept hb,fun e he=>(h.2 e he).turns (h.1.ops e he) (Turns.of_below hb) (G:=fun _=>False) fun _ _ h=>h⟩
theorem addL_sub (L:Lg) (x:Bat) {y:Bat} (h:y ∈ (addL L x).2.1):y ∈ (addL L x).1.row x.r.toNat∧rightT x=true:=by
 obtain ⟨h1,-,-⟩:=addL_row L x
 refine ⟨by rw [h1]; exact List.mem_append_right _ h,?_⟩
 cases hr:rightT x with
 | true=>rfl
 | false=>rw [addL_bad hr] at h; cases h
theorem addL_ops {L:Lg} {x:Bat} (ho:LgOk (addL L x).1) {y:Bat} (h:y ∈ (addL L x).2.1):OkB y∧0<y.ops.length:=by
 obtain ⟨h1,h2⟩:=addL_sub L x h
 have h3:=ho.right _ (right_r h2).1 y h1
 exact ⟨h3,by have:=rightT_iff.1 h3.right; omega⟩
theorem addL_few {L:Lg} {x:Bat} (ho:LgOk (addL L x).1):(addL L x).2.1.length≤512:=by
 obtain ⟨h1,-,-⟩:=addL_row L x
 cases hr:rightT x with
 | false=>rw [addL_bad hr]; simp
 | true =>
  have:=ho.len (right_r hr).1
  rw [h1,List.length_append] at this
  omega
end Go.Proofs.YtfgnmnkihbgjnaaGreat
