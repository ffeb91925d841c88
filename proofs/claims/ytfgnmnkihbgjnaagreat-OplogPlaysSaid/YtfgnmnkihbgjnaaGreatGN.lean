/-
  A ROW OF THE DOCUMENT's OPS THAT GROWS ('GrowR').
  No conditions but sizes.
  THE LAWS' HELPERS Ref: an op, a batch of the document's, its Path, its ops copied.
  No conditions but sizes.
-/
import Derived.Test.YtfgnmnkihbgjnaaGreatSh
import Derived.Test.YtfgnmnkihbgjnaaGreatGH
set_option maxRecDepth 100000
set_option maxHeartbeats 8000000
namespace Go.Proofs.YtfgnmnkihbgjnaaGreat
open Go.RowKit
theorem oinfo_rop:(Tryz.prog.info? 89).map (fun i=>(i.zero,i.size,i.bytes))=some (some (.agg (opA Opp.zero none 0)),12,128):=by kernel_rfl
theorem run_build_rop (w:World) (y:Opp) (q:Option Addr) (c:Nat):(Instr.buildSlice 41 1 #[(0,.agg (opA y q c))]).run Tryz.prog w=.ok (.slice (some ⟨w.heap.size,0,none⟩) 1 1) (w.alloc (.cells (opA y q c) 89)):=by kernel_rfl
theorem step_build_rop {w:World} {ops:Array Oper} {o:Oper} {a:Act} {K:Act→World→Prop} {Q:Exit→Act→World→Prop} {E:Prop} (hgd:o.guard=none) (x:Operand) (ho:o.op=.buildSlice 41 1 #[(0,x)]) (y:Opp) (q:Option Addr) (c:Nat) (hx:a.eval x=.agg (opA y q c))
  (h:K (a.put o.dst (.slice (some ⟨w.heap.size,0,none⟩) 1 1)) (w.alloc (.cells (opA y q c) 89))):if Region.wanted o (yielded ops a.tmps)=true then Oper.wp Tryz.prog o a w K Q else E:=by
 have hw:Region.wanted o (yielded ops a.tmps)=true:=by simp [Region.wanted,hgd]
 rw [if_pos hw]
 unfold Oper.wp execOp
 simp only [ho,Sem.run_bind,Sem.run_pure,Result.andThen_ok,List.map_toArray,List.map_cons,List.map_nil,hx,run_build_rop]
 exact h
structure GrowR (R:Nat) (x:Bat) (l:List En) (p:Option Addr) (c:Nat) (w:World):Prop where
 at_:BtAt w R x p c
 own:w.ownsRow (R+1) 89 12 (.slice p x.ops.length c) x.ops.length (enCells l)
 map:l.map (·.x)=x.ops
 pa:∀ e,e ∈ l→Pa w e.x e.q e.c
 far:∀ e,e ∈ l→Far R (Value.slice p x.ops.length c) e.x e.q
theorem GrowR.start {w:World} {R:Nat} {r s t:Int} (h:AgAt w R #[.int .i64 r,.int .i64 s,.int .i64 t,.slice none 0 0]):GrowR R ⟨r,s,t,[]⟩ [] none 0 w :=
 ⟨h,World.ownsRow_nil w _ _ _,rfl,fun _ h=>(by cases h),fun _ h=>(by cases h)⟩
theorem GrowR.kept {w w':World} {R:Nat} {x:Bat} {l:List En} {p:Option Addr} {c:Nat} (h:GrowR R x l p c w) (hb:Below w.heap.size w w'):GrowR R x l p c w' :=
 ⟨AgAt.kept h.at_ hb,own_belowK h.own hb,h.map,fun e he=>(h.pa e he).kept hb,h.far⟩
theorem GrowR.only {w w':World} {R b:Nat} {x:Bat} {l:List En} {p:Option Addr} {c:Nat} (h:GrowR R x l p c w) (ho:Only b w w') (hb:b<R):GrowR R x l p c w' :=
 ⟨AgAt.only h.at_ ho (by omega),World.ownsRow.kept (row:=some b) h.own ho (by
  cases hv:(Value.slice p x.ops.length c).ownBlock with
  | none=>simp
  | some g=>have:=(World.ownsRow.lt h.own g hv).1; simp; omega),h.map,fun e he=>(h.pa e he).only ho (fun h0 a ha=>by have:=(h.far e he h0 a ha).1; omega),h.far⟩
theorem GrowR.os {w:World} {R:Nat} {x:Bat} {l:List En} {p:Option Addr} {c:Nat} (h:GrowR R x l p c w):Os w p c l x.ops:=by
 obtain ⟨p',c',e,h1,h2,-,h3,-⟩:=own_rd h.own
 cases e
 exact ⟨h.map,h1,h.pa,h3,h2⟩
theorem GrowR.bops {w:World} {R:Nat} {x:Bat} {l:List En} {p:Option Addr} {c:Nat} (h:GrowR R x l p c w):Bops w x p c:=⟨l,h.os⟩
theorem GrowR.bopsN {w:World} {R B:Nat} {x:Bat} {l:List En} {p:Option Addr} {c:Nat} (h:GrowR R x l p c w) (hB:B≤R):BopsN B w x p c:=by
 refine ⟨l,h.os,fun _ a ha=>?_,fun e he h0 a ha=>by have:=(h.far e he h0 a ha).1; omega⟩
 obtain ⟨p',c',e,-,-,-,-,h4⟩:=own_rd h.own
 cases e
 have:=(h4 a ha).1
 omega
theorem GrowR.grown {w w':World} {R:Nat} {x:Bat} {l:List En} {p p':Option Addr} {c c':Nat} {y:Opp} {q:Option Addr} {k:Nat} (h:GrowR R x l p c w)
  (hp:Pa w y q k) (hq:Far R (Value.slice p x.ops.length c) y q)
  (ho:w'.ownsRow (R+1) 89 12 (.slice p' (x.ops.length+1) c') (x.ops.length+1) (enCells l ++ opL y q k)) (hg:w.grownBy w' (Value.slice p x.ops.length c).ownBlock)
  (hw:∀ g,(Value.slice p' (x.ops.length+1) c').ownBlock=some g→(Value.slice p x.ops.length c).ownBlock=some g∨w.heap.size≤g) :
  GrowR R { x with ops:=x.ops ++ [y] } (l ++ [⟨y,q,k⟩]) p' c' (w'.setCell ⟨R,3,none⟩ (.slice p' (x.ops.length+1) c'))∧Below R w (w'.setCell ⟨R,3,none⟩ (.slice p' (x.ops.length+1) c'))∧BtAt w' R x p c:=by
 have hR:=AgAt.lt h.at_
 have hne:(Value.slice p x.ops.length c).ownBlock≠some R:=fun e=>by have:=(World.ownsRow.lt h.own R e).1; omega
 have ha':BtAt w' R x p c:=AgAt.block h.at_ (hg.block R hR (fun e=>hne e.symm))
 have hl:(x.ops ++ [y]).length=x.ops.length+1:=by simp
 have hset:∀ k,k≠R→(w'.setCell ⟨R,3,none⟩ (.slice p' (x.ops.length+1) c')).heap[k]?=w'.heap[k]?:=fun k hk=>heap_setCell_other w' ⟨R,3,none⟩ k _ hk
 have hsz:(w'.setCell ⟨R,3,none⟩ (.slice p' (x.ops.length+1) c')).heap.size=w'.heap.size:=by simp
 have hblk:∀ k,k<w.heap.size→k≠R→(Value.slice p x.ops.length c).ownBlock≠some k→(w'.setCell ⟨R,3,none⟩ (.slice p' (x.ops.length+1) c')).heap[k]?=w.heap[k]?:=fun k h1 h2 h3 =>
  (hset k h2).trans (hg.block k h1 (fun e=>h3 e.symm))
 have hpa:∀ (y:Opp) (q:Option Addr) (k:Nat),Pa w y q k→Far R (Value.slice p x.ops.length c) y q→Pa (w'.setCell ⟨R,3,none⟩ (.slice p' (x.ops.length+1) c')) y q k:=fun y q k h1 h2=>by
  refine ⟨fun h0=>?_,h1.nil,h1.cap⟩
  obtain ⟨b,o,rfl,hc⟩:=h1.rd h0
  rw [stCells_length] at h0
  refine ⟨b,o,rfl,fun i u hu=>?_⟩
  have hcc:=hc i u hu
  have h3:=h2 (by omega) _ rfl
  rw [World.cell?_of_block (w:=w) (hblk b (cell_lt hcc) (by have:=h3.1; simp only at this; omega) h3.2)]
  exact hcc
 have hfar:∀ (y:Opp) (q:Option Addr) (k:Nat),Pa w y q k→Far R (Value.slice p x.ops.length c) y q→Far R (Value.slice p' (x.ops.length+1) c') y q:=fun y q k h1 h2 h0 a ha=>by
  refine ⟨(h2 h0 a ha).1,fun hh=>?_⟩
  rcases hw _ hh with h3 | h3
  ·exact (h2 h0 a ha).2 h3
  ·obtain ⟨b,o,e1,e2⟩:=h1.rd.addr (by rw [stCells_length]; omega)
   rw [ha] at e1
   cases e1
   simp only at h3
   omega
 refine ⟨⟨?_,?_,?_,?_,?_⟩,?_,ha'⟩
 ·have:=AgAt.put ha' 3 (.slice p' (x.ops.length+1) c')
  have e:(btA x p c).setIfInBounds 3 (.slice p' (x.ops.length+1) c')=btA { x with ops:=x.ops ++ [y] } p' c':=by
   unfold btA; simp
  rw [e] at this
  exact this
 ·dsimp only
  rw [hl,enCells_append,enCells_sing]
  exact World.ownsRow.kept (row:=some R) ho ⟨rfl,rfl,rfl,by simp,fun k _ hk=>hset k (by simpa using fun e=>hk (by rw [e]))⟩ (by
   cases hv:(Value.slice p' (x.ops.length+1) c').ownBlock with
   | none=>simp
   | some g=>have:=(World.ownsRow.lt ho g hv).1; simp; omega)
 ·rw [List.map_append,h.map]; rfl
 ·intro e he
  rcases List.mem_append.1 he with he | he
  ·exact hpa _ _ _ (h.pa e he) (h.far e he)
  ·obtain rfl:e=⟨y,q,k⟩:=by simpa using he
   exact hpa _ _ _ hp hq
 ·intro e he
  dsimp only
  rw [hl]
  rcases List.mem_append.1 he with he | he
  ·exact hfar _ _ _ (h.pa e he) (h.far e he)
  ·obtain rfl:e=⟨y,q,k⟩:=by simpa using he
   exact hfar _ _ _ hp hq
 ·exact ⟨hg.os,hg.tape,hg.output,Nat.le_trans hg.size (by simp),fun k hk=>hblk k (by omega) (by omega) (fun e=>by have:=(World.ownsRow.lt h.own k e).1; omega)⟩
open Go.RowKit
theorem OwS.startR (w:World) (x:Opp) (q:Option Addr) (c:Nat) (ha:Pa w x q c) (A:Array Value) (hA:A=opA Opp.zero none 0):OwS w w.heap.size x q c (((w.alloc (.cells (opA x q c) 55)).alloc (.cells A 89)).drew):=by
 refine OwS.kept (W:=(w.alloc (.cells (opA x q c) 55)).alloc (.cells A 89)) ?_ (Below.drew (Below.refl _ _))
 subst hA
 have h1:∀ (w:World) (o:Obj),Below w.heap.size w (w.alloc o):=fun w o=>(Below.refl _ _).alloc (Nat.le_refl _) _
 have e1:(w.alloc (.cells (opA x q c) 55)).heap.size=w.heap.size+1:=by simp
 have k:=heap_alloc_new (w.alloc (.cells (opA x q c) 55)) (.cells (opA Opp.zero none 0) 89)
 rw [e1] at k
 exact ⟨Nat.le_refl _,(OpAt.new w x q c _).kept (h1 _ _),⟨_,_,k,rfl⟩,ha,(h1 _ _).trans ((h1 _ _).mono (by simp))⟩
theorem refN_any (x:Opp) (q:Option Addr) (c:Nat) (w:World) (ha:Pa w x q c) (hl:x.path.length≤5000):Calls Tryz.prog 51 #[.agg (opA x q c)] w (OwnedN w x):=by
 obtain ⟨i0,hi,hz0,hz1,hz2⟩:=info_parts oinfo_st
 have HST:=Hi (OwS.startR w x q c ha #[.int .i64 0,.int .i64 0,.int .i64 0,.int .i64 0,.int .i64 0,.string ⟨#[]⟩,.slice none 0 0,.int .i64 0,.int .i64 0,.int .i64 0,.string ⟨#[]⟩,.bool false] rfl)
 clear ha
 go_enter Tryz.func51,Tryz.ntmps51
 go_upto_region 1 with fail
 refine wp_region_held_drew (S:=OwS w w.heap.size x q c) (by kernel_rfl) HST.out (fun hS=>?_)
 clear HST
 generalize ((w.alloc (.cells (opA x q c) 55)).alloc (.cells #[.int .i64 0,.int .i64 0,.int .i64 0,.int .i64 0,.int .i64 0,.string ⟨#[]⟩,.slice none 0 0,.int .i64 0,.int .i64 0,.int .i64 0,.string ⟨#[]⟩,.bool false] 89)).drew=W0 at *
 have HS0:=Hi hS
 refine tX 0 rfl hS ?_
 refine tK 1 (v:=?_) rfl ?_ hS ?_
 rotate_left
 ·intro W hSW
  obtain ⟨x0,x1,x2,x3,x4,x5,x6,x7,x8,x9,x10,x11⟩:=hSW.op.cells
  go_simp
  all_goals with_reducible rfl
 refine tX 2 rfl hS ?_
 refine tK 3 (v:=?_) rfl ?_ hS ?_
 rotate_left
 ·intro W hSW
  obtain ⟨x0,x1,x2,x3,x4,x5,x6,x7,x8,x9,x10,x11⟩:=hSW.op.cells
  go_simp
  all_goals with_reducible rfl
 go_simp
 refine tX 4 rfl hS ?_
 refine tK 5 (v:=?_) rfl ?_ hS ?_
 rotate_left
 ·intro W hSW
  obtain ⟨x0,x1,x2,x3,x4,x5,x6,x7,x8,x9,x10,x11⟩:=hSW.op.cells
  go_simp
  all_goals with_reducible rfl
 refine tX 6 rfl hS ?_
 refine tK 7 (v:=?_) rfl ?_ hS ?_
 rotate_left
 ·intro W hSW
  obtain ⟨x0,x1,x2,x3,x4,x5,x6,x7,x8,x9,x10,x11⟩:=hSW.op.cells
  go_simp
  all_goals with_reducible rfl
 go_simp
 refine tX 9 rfl hS ?_
 refine tK 10 (v:=?_) rfl ?_ hS ?_
 rotate_left
 ·intro W hSW
  obtain ⟨x0,x1,x2,x3,x4,x5,x6,x7,x8,x9,x10,x11⟩:=hSW.op.cells
  go_simp
  all_goals with_reducible rfl
 refine tX 12 rfl hS ?_
 refine tK 13 (v:=?_) rfl ?_ hS ?_
 rotate_left
 ·intro W hSW
  obtain ⟨x0,x1,x2,x3,x4,x5,x6,x7,x8,x9,x10,x11⟩:=hSW.op.cells
  go_simp
  all_goals with_reducible rfl
 go_simp
 refine tX 14 rfl hS ?_
 refine tK 15 (v:=?_) rfl ?_ hS ?_
 rotate_left
 ·intro W hSW
  obtain ⟨x0,x1,x2,x3,x4,x5,x6,x7,x8,x9,x10,x11⟩:=hSW.op.cells
  go_simp
  all_goals with_reducible rfl
 refine tX 16 rfl hS ?_
 refine tK 17 (v:=?_) rfl ?_ hS ?_
 rotate_left
 ·intro W hSW
  obtain ⟨x0,x1,x2,x3,x4,x5,x6,x7,x8,x9,x10,x11⟩:=hSW.op.cells
  go_simp
  all_goals with_reducible rfl
 go_simp
 refine rD 8 rfl (fun K hK=>?_)
 go_simp
 refine hK.out _ _ (hS.kept ((Below.refl _ _).alloc (Nat.le_refl _) _)) (fun hS=>?_)
 clear hK K
 refine rD 11 rfl (fun K hK=>?_)
 refine step_append_kL (by kernel_rfl) _ _ 51 rfl W0.heap.size 50 i0 _ 2 16 Tryz.underlying51 hi hz0 hz1 (by decide) hz2 (by decide) rfl _ 0 [] rfl (World.ownsRow_lit (base:=W0.heap.size) (e:=50) (size:=2) W0 #[] 0 (Nat.le_refl _) (by simp [maxLen]) (by simp)) _ x.path.length c (stCells x.path) rfl (by rw [stCells_length]) hS.paw.rd hS.pa.nil stCells_one (by omega) (by simp) ?_
 intro p2 c2 w2 ho2 hg2
 rw [Nat.zero_add,List.nil_append] at ho2
 have HS2:=Hi (HS0.out.kept (Below.grown ((Below.refl W0.heap.size W0).alloc (Nat.le_refl _) (.cells #[] 50)) hg2 (by simp) (fun k hk=>by cases hk; exact Nat.le_refl _)))
 have HO2:=Hi (show OwnP w2 W0.heap.size (.slice p2 x.path.length c2) x.path from ho2)
 have HNW:=Hi (show ∀ a,p2=some a→w.heap.size≤a.block from by
  obtain ⟨p',c',e,-,-,-,-,h4⟩:=own_rd HO2.out
  cases e
  intro a ha
  have:=(h4 a ha).1
  have:=HS0.out.below.size
  omega)
 clear ho2 hg2
 refine hK.out _ _ HS2.out (fun hS=>?_)
 clear hK K hS
 rw [Nat.zero_add]
 refine wpAnyH_take (i:=18) (v:=?_) rfl (by kernel_rfl) (by kernel_rfl) (by kernel_rfl) (fun _ _ _ h=>h) (Or.inl ⟨by kernel_rfl,?_⟩) HS2.out ?_
 rotate_left
 ·intro W hSW
  go_simp
  all_goals with_reducible rfl
 obtain ⟨A,TT,hA,hAs⟩:=HS2.out.res
 go_simp
 refine rD 19 rfl (fun K hK=>?_)
 refine step_store_op otR (by kernel_rfl) _ _ rfl (w.heap.size+1) rfl TT A hA hAs x p2 c2 rfl ?_
 intro w3 hv3 hko hsz hbn
 have HS3:=Hi (HS2.out.stored hv3 hko hbn)
 have HP3:=Hi (HO2.out.paStored HS0.out.lt hko)
 clear hko hsz hbn
 refine hK.out _ _ HS3.out (fun hS=>?_)
 clear hK K hS
 refine wpAnyH_done (by kernel_rfl) ?_ _
 go_simp
 go_wp2
 exact bodyPost_ret (results_op otR _ rfl hv3 rfl) rfl ⟨p2,c2,rfl,HP3.out,HS3.out.below,HNW.out⟩
structure OwBR (w0:World) (X R0 R1:Nat) (x:Bat) (p:Option Addr) (c:Nat) (y:Bat) (l:List En) (p':Option Addr) (c':Nat) (w:World):Prop where
 hX:w0.heap.size≤X
 hR0:X<R0
 hR1:R0<R1
 ox:OwX w0 X x p c w
 res:AgAt w R0 (btA Bat.zero none 0)
 row:GrowR R1 y l p' c' w
section
variable {w0 w w':World} {X R0 R1:Nat} {x y z:Bat} {p p' p2:Option Addr} {c c' c2:Nat} {l l2:List En}
theorem OwBR.kept (h:OwBR w0 X R0 R1 x p c y l p' c' w) (hb:Below w.heap.size w w'):OwBR w0 X R0 R1 x p c y l p' c' w' :=
 {h with ox:=⟨AgAt.kept h.ox.at_ hb,h.ox.below.trans (hb.mono h.ox.below.size)⟩,res:=h.res.kept hb,row:=h.row.kept hb }
theorem OwBR.put (h:OwBR w0 X R0 R1 x p c y l p' c' w) (hg:GrowR R1 z l2 p2 c2 w') (hb:Below R1 w w'):OwBR w0 X R0 R1 x p c z l2 p2 c2 w':=by
 have h1:=h.hX; have h2:=h.hR0; have h3:=h.hR1
 exact { h with ox:=⟨AgAt.below h.ox.at_ hb (by omega),h.ox.below.trans (hb.mono (by omega))⟩,res:=h.res.below hb (by omega),row:=hg }
theorem OwX.grownR (h:OwBR w0 X R0 R1 x p c y l p' c' w) (hg:w.grownBy w' (Value.slice p' y.ops.length c').ownBlock):OwX w0 X x p c w':=by
 have h1:=h.hX; have h2:=h.hR0; have h3:=h.hR1
 have hb:Below (R1+1) w w':=⟨hg.os,hg.tape,hg.output,hg.size,fun k hk=>hg.block k (by have:=AgAt.lt h.row.at_; omega) (fun e=>by have:=(World.ownsRow.lt h.row.own k e.symm).1; omega)⟩
 exact ⟨AgAt.below h.ox.at_ hb (by omega),h.ox.below.trans (hb.mono (by omega))⟩
end
theorem bref_any (x:Bat) (p:Option Addr) (c:Nat) (w:World) (h:Bops w x p c) (hl:x.ops.length≤5000) (hp:∀ y,y ∈ x.ops→y.path.length≤5000):Calls Tryz.prog 18 #[.agg (btA x p c)] w
  fun e w'=>∃ p' c',e=.returned (.agg (btA x p' c'))∧BopsN w.heap.size w' x p' c'∧Below w.heap.size w w':=by
 obtain ⟨i0,hi,hz0,hz1,hz2⟩:=info_parts oinfo_rop
 obtain ⟨l0,h⟩:=h
 have hb1:=(Below.refl w.heap.size w).alloc (Nat.le_refl _) (.cells (btA x p c) 39)
 have hb2:=(Below.refl (w.alloc (.cells (btA x p c) 39)).heap.size _).alloc (Nat.le_refl _) (.cells #[.int .i64 0,.int .i64 0,.int .i64 0,.slice none 0 0] 43)
 have HX:=Hi (show BtAt ((w.alloc (.cells (btA x p c) 39)).alloc (.cells #[.int .i64 0,.int .i64 0,.int .i64 0,.slice none 0 0] 43)) w.heap.size x p c from (AgAt.new w _ _).kept hb2)
 have HOS:=Hi (fun W (hb:Below w.heap.size w W)=>h.kept hb)
 obtain ⟨x0,x1,x2,x3⟩:=BtAt.cells HX.out
 have T:=Hi (show OwBR w w.heap.size (w.heap.size+1) (w.heap.size+2) x p c ⟨x.r,x.s,x.t,[]⟩ [] none 0 (((w.alloc (.cells (btA x p c) 39)).alloc (.cells #[.int .i64 0,.int .i64 0,.int .i64 0,.slice none 0 0] 43)).alloc (.cells #[.int .i64 x.r,.int .i64 x.s,.int .i64 x.t,.slice none 0 0] 43)) from by
  have k1:=AgAt.new (w.alloc (.cells (btA x p c) 39)) #[.int .i64 0,.int .i64 0,.int .i64 0,.slice none 0 0] 43
  have e1:(w.alloc (.cells (btA x p c) 39)).heap.size=w.heap.size+1:=by simp
  rw [e1] at k1
  generalize hw2:(w.alloc (.cells (btA x p c) 39)).alloc (.cells #[.int .i64 0,.int .i64 0,.int .i64 0,.slice none 0 0] 43)=W2 at *
  have e2:W2.heap.size=w.heap.size+2:=by rw [← hw2]; simp
  have k2:=AgAt.new W2 #[.int .i64 x.r,.int .i64 x.s,.int .i64 x.t,.slice none 0 0] 43
  rw [e2] at k2
  have hb3:=(Below.refl W2.heap.size W2).alloc (Nat.le_refl _) (.cells #[.int .i64 x.r,.int .i64 x.s,.int .i64 x.t,.slice none 0 0] 43)
  exact ⟨Nat.le_refl _,by omega,by omega,⟨AgAt.kept HX.out hb3,(hb1.trans (hb2.mono (by simp))).trans (hb3.mono (by omega))⟩,k1.kept hb3,GrowR.start k2⟩)
 clear h hb1 hb2 HX
 go_enter Tryz.func18,Tryz.ntmps18
 go_wp2
 go_loopw [4] (fun i wr=>∃ (k:Nat) (l:List En) (p':Option Addr) (c':Nat),k≤x.ops.length∧i=.int .i64 (k:Int)∧OwBR w w.heap.size (w.heap.size+2 - 1) (w.heap.size+2) x p c ⟨x.r,x.s,x.t,x.ops.take k⟩ l p' c' wr) (fun i _=>x.ops.length - (intOf i).toNat)
 case atStart=>exact ⟨0,[],none,0,Nat.zero_le _,rfl,T.out⟩
 case round =>
  clear T x0 x1 x2 x3
  obtain ⟨k,l,p',c',hk,rfl,ht⟩:=hrel
  rw [show w.heap.size+2 - 1=w.heap.size+1 from rfl] at *
  have T:=Hi ht
  clear ht
  obtain ⟨x0,x1,x2,x3⟩:=BtAt.cells T.out.ox.at_
  by_cases hlt:k<x.ops.length
  ·have HTK:=Hi (take_succ_op x.ops k hlt)
   have HTL:=Hi (show (x.ops.take k).length=k by rw [List.length_take]; omega)
   obtain ⟨b,o,rfl,hb⟩:=(HOS.out _ T.out.ox.below).rd.addr (by rw [enCells_length,(HOS.out _ T.out.ox.below).len]; omega)
   have HLL:=Hi (show k<l0.length by rw [(HOS.out _ T.out.ox.below).len]; exact hlt)
   have HXK:=Hi ((HOS.out _ T.out.ox.below).x k)
   have HOW:=Hi (fun W (hb:Below w.heap.size w W)=>refN_any (opOf x.ops k) (enOf l0 k).q (enOf l0 k).c W ((HOS.out _ hb).paOf hlt) (hp _ (opOf_mem hlt)))
   have hd0:decide ((k:Int)<(x.ops.length:Int))=true:=decide_eq_true (by omega)
   replace T:=Hi (T.out.kept (Below.drew (Below.refl _ _)))
   generalize x.ops.take k=tk at *
   go_upto_region 5 with fail
   refine wp_region_held_drew (S:=OwX w w.heap.size x (some ⟨b,o,none⟩) c) (by kernel_rfl) T.out.ox (fun hS=>?_)
   clear x0 x1 x2 x3
   generalize wr.drew=w1 at *
   generalize opOf x.ops k=y at *
   refine tX 0 rfl hS ?_
   refine tX 2 rfl hS ?_
   refine tK 3 (v:=?_) rfl ?_ hS ?_
   rotate_left
   ·intro W hSW
    obtain ⟨x0,x1,x2,x3⟩:=BtAt.cells hSW.at_
    go_simp
    all_goals with_reducible rfl
   go_simp
   refine tX 4 rfl hS ?_
   refine tX 5 rfl hS ?_
   refine tK 6 (v:=.agg (opA (enOf l0 k).x (enOf l0 k).q (enOf l0 k).c)) rfl (fun W hSW=>exec_load_en otP rfl rfl l0 (HOS.out W hSW.below).rd HLL.out) hS ?_
   rw [HXK.out]
   go_simp
   refine wpAnyH_ready (rs:=[1,7]) (by kernel_rfl) (by simp) ?_
   refine AllReadyH.cons rfl (fun K hK=>?_) (AllReadyH.cons rfl (fun K hK=>?_) AllReadyH.nil)
   ·have y3:=(BtAt.cells T.out.row.at_).2.2.2
    dsimp only at y3
    go_simp
    refine hK.out _ _ T.out.ox (fun hS=>?_)
    clear hK K y3
    refine rD 7 rfl (fun K hK=>?_)
    go_simp
    go_wp2_with ((go_at_call 51; refine (HOW.out _ T.out.ox.below).mono ?_; rintro e w2 ⟨q2,c2,rfl,hp2,hb2,hn2⟩))
    have HN2:=Hi (show Far (w.heap.size+2) (Value.slice p' tk.length c') y q2 from fun _ a ha=>by
     have h1:=hn2 a ha
     have h2:=AgAt.lt T.out.row.at_
     refine ⟨by omega,fun hh=>?_⟩
     have:=(World.ownsRow.lt T.out.row.own a.block hh).2
     omega)
    replace T:=Hi (T.out.kept hb2)
    have HP2:=Hi hp2
    clear hb2 hn2 hp2
    refine hK.out _ _ T.out.ox (fun hS=>?_)
    clear hK K
    refine rD 8 rfl (fun K hK=>?_)
    have hb3:=(Below.refl w2.heap.size w2).alloc (Nat.le_refl _) (.cells (opA y q2 c2) 89)
    replace T:=Hi (T.out.kept hb3)
    have HP3:=Hi (HP2.out.kept hb3)
    have HRW:=Hi (rd_op_one w2 y q2 c2 89)
    clear hb3
    refine step_build_rop (by kernel_rfl) _ rfl y q2 c2 rfl ?_
    refine hK.out _ _ T.out.ox (fun hS=>?_)
    clear hK K
    generalize w2.alloc (.cells (opA y q2 c2) 89)=w3 at *
    refine rD 9 rfl (fun K hK=>?_)
    refine step_append_kN (by kernel_rfl) _ _ 41 rfl (w.heap.size+2+1) 89 i0 _ 12 128 Tryz.underlying41 hi hz0 hz1 (by decide) hz2 (by decide) rfl _ tk.length (enCells l) rfl T.out.row.own _ 1 1 (opL y q2 c2) rfl rfl HRW.out (fun h=>by cases h) (opL_one y q2 c2) (by have:=HTL.out; omega) (by have:=AgAt.lt T.out.row.at_; omega) ?_
    intro p4 c4 w4 ho4 hg4 hw4
    have HG:=Hi (T.out.row.grown HP3.out HN2.out ho4 hg4 hw4)
    have HO4:=Hi (OwX.grownR T.out hg4)
    clear ho4 hg4 hw4
    refine hK.out _ _ HO4.out (fun hS=>?_)
    clear hK K
    refine tX 10 rfl hS ?_
    go_simp
    refine rD 11 rfl (fun K hK=>?_)
    have y3:=(BtAt.cells HG.out.2.2).2.2.2
    have yf:=AgAt.free HG.out.2.2 3
    dsimp only at y3
    replace T:=Hi (T.out.put HG.out.1 HG.out.2.1)
    go_simp
    refine hK.out _ _ T.out.ox (fun hS=>?_)
    clear hK K y3 yf
    refine wpAnyH_done (by kernel_rfl) ?_ _
    go_simp
    generalize w4.setCell ⟨w.heap.size+2,3,none⟩ (.slice p4 (tk.length+1) c4)=w5 at *
    clear HG HP3 HRW HO4
    go_wp2
    go_roundw
    case rel=>exact ⟨k+1,_,_,_,by omega,by go_num,by rw [HTK.out]; exact T.out⟩
    case measure=>simp [intOf]; omega
   ·go_simp
    go_wp2_with ((go_at_call 51; refine (HOW.out _ T.out.ox.below).mono ?_; rintro e w2 ⟨q2,c2,rfl,hp2,hb2,hn2⟩))
    have HN2:=Hi (show Far (w.heap.size+2) (Value.slice p' tk.length c') y q2 from fun _ a ha=>by
     have h1:=hn2 a ha
     have h2:=AgAt.lt T.out.row.at_
     refine ⟨by omega,fun hh=>?_⟩
     have:=(World.ownsRow.lt T.out.row.own a.block hh).2
     omega)
    replace T:=Hi (T.out.kept hb2)
    have HP2:=Hi hp2
    clear hb2 hn2 hp2
    refine hK.out _ _ T.out.ox (fun hS=>?_)
    clear hK K
    refine wpAnyH_ready (rs:=[1,8]) (by kernel_rfl) (by simp) ?_
    refine AllReadyH.cons rfl (fun K hK=>?_) (AllReadyH.cons rfl (fun K hK=>?_) AllReadyH.nil)
    ·have y3:=(BtAt.cells T.out.row.at_).2.2.2
     dsimp only at y3
     go_simp
     refine hK.out _ _ T.out.ox (fun hS=>?_)
     clear hK K y3
     refine rD 8 rfl (fun K hK=>?_)
     have hb3:=(Below.refl w2.heap.size w2).alloc (Nat.le_refl _) (.cells (opA y q2 c2) 89)
     replace T:=Hi (T.out.kept hb3)
     have HP3:=Hi (HP2.out.kept hb3)
     have HRW:=Hi (rd_op_one w2 y q2 c2 89)
     clear hb3
     refine step_build_rop (by kernel_rfl) _ rfl y q2 c2 rfl ?_
     refine hK.out _ _ T.out.ox (fun hS=>?_)
     clear hK K
     generalize w2.alloc (.cells (opA y q2 c2) 89)=w3 at *
     refine rD 9 rfl (fun K hK=>?_)
     refine step_append_kN (by kernel_rfl) _ _ 41 rfl (w.heap.size+2+1) 89 i0 _ 12 128 Tryz.underlying41 hi hz0 hz1 (by decide) hz2 (by decide) rfl _ tk.length (enCells l) rfl T.out.row.own _ 1 1 (opL y q2 c2) rfl rfl HRW.out (fun h=>by cases h) (opL_one y q2 c2) (by have:=HTL.out; omega) (by have:=AgAt.lt T.out.row.at_; omega) ?_
     intro p4 c4 w4 ho4 hg4 hw4
     have HG:=Hi (T.out.row.grown HP3.out HN2.out ho4 hg4 hw4)
     have HO4:=Hi (OwX.grownR T.out hg4)
     clear ho4 hg4 hw4
     refine hK.out _ _ HO4.out (fun hS=>?_)
     clear hK K
     refine tX 10 rfl hS ?_
     go_simp
     refine rD 11 rfl (fun K hK=>?_)
     have y3:=(BtAt.cells HG.out.2.2).2.2.2
     have yf:=AgAt.free HG.out.2.2 3
     dsimp only at y3
     replace T:=Hi (T.out.put HG.out.1 HG.out.2.1)
     go_simp
     refine hK.out _ _ T.out.ox (fun hS=>?_)
     clear hK K y3 yf
     refine wpAnyH_done (by kernel_rfl) ?_ _
     go_simp
     generalize w4.setCell ⟨w.heap.size+2,3,none⟩ (.slice p4 (tk.length+1) c4)=w5 at *
     clear HG HP3 HRW HO4
     go_wp2
     go_roundw
     case rel=>exact ⟨k+1,_,_,_,by omega,by go_num,by rw [HTK.out]; exact T.out⟩
     case measure=>simp [intOf]; omega
    ·have hb3:=(Below.refl w2.heap.size w2).alloc (Nat.le_refl _) (.cells (opA y q2 c2) 89)
     replace T:=Hi (T.out.kept hb3)
     have HP3:=Hi (HP2.out.kept hb3)
     have HRW:=Hi (rd_op_one w2 y q2 c2 89)
     clear hb3
     refine step_build_rop (by kernel_rfl) _ rfl y q2 c2 rfl ?_
     refine hK.out _ _ T.out.ox (fun hS=>?_)
     clear hK K
     generalize w2.alloc (.cells (opA y q2 c2) 89)=w3 at *
     refine rD 1 rfl (fun K hK=>?_)
     have y3:=(BtAt.cells T.out.row.at_).2.2.2
     dsimp only at y3
     go_simp
     refine hK.out _ _ T.out.ox (fun hS=>?_)
     clear hK K y3
     refine rD 9 rfl (fun K hK=>?_)
     refine step_append_kN (by kernel_rfl) _ _ 41 rfl (w.heap.size+2+1) 89 i0 _ 12 128 Tryz.underlying41 hi hz0 hz1 (by decide) hz2 (by decide) rfl _ tk.length (enCells l) rfl T.out.row.own _ 1 1 (opL y q2 c2) rfl rfl HRW.out (fun h=>by cases h) (opL_one y q2 c2) (by have:=HTL.out; omega) (by have:=AgAt.lt T.out.row.at_; omega) ?_
     intro p4 c4 w4 ho4 hg4 hw4
     have HG:=Hi (T.out.row.grown HP3.out HN2.out ho4 hg4 hw4)
     have HO4:=Hi (OwX.grownR T.out hg4)
     clear ho4 hg4 hw4
     refine hK.out _ _ HO4.out (fun hS=>?_)
     clear hK K
     refine tX 10 rfl hS ?_
     go_simp
     refine rD 11 rfl (fun K hK=>?_)
     have y3:=(BtAt.cells HG.out.2.2).2.2.2
     have yf:=AgAt.free HG.out.2.2 3
     dsimp only at y3
     replace T:=Hi (T.out.put HG.out.1 HG.out.2.1)
     go_simp
     refine hK.out _ _ T.out.ox (fun hS=>?_)
     clear hK K y3 yf
     refine wpAnyH_done (by kernel_rfl) ?_ _
     go_simp
     generalize w4.setCell ⟨w.heap.size+2,3,none⟩ (.slice p4 (tk.length+1) c4)=w5 at *
     clear HG HP3 HRW HO4
     go_wp2
     go_roundw
     case rel=>exact ⟨k+1,_,_,_,by omega,by go_num,by rw [HTK.out]; exact T.out⟩
     case measure=>simp [intOf]; omega
  ·obtain rfl:k=x.ops.length:=by omega
   rw [List.take_length] at T
   have hx:=T.out.row.at_
   have hd0:decide ((x.ops.length:Int)<(x.ops.length:Int))=false:=decide_eq_false (by omega)
   go_wp2_with (first | (refine wpList_load_ag btR (by kernel_rfl) _ rfl _ rfl (A:=btA _ p' c') rfl (by assumption) ?_) | (refine wpList_store_ag btR rfl _ _ rfl _ rfl _ T.out.res rfl rfl rfl (btA_one _ _ _) ?_; intro wy hvy hko hsz hbn))
   refine bodyPost_ret (results_ag btR _ rfl rfl hvy rfl) rfl ?_
   exact ⟨p',c',rfl,(T.out.row.only (only_of hko hsz hbn) (by omega)).bopsN (by omega),hbn _ _ T.out.ox.below (by omega)⟩
end Go.Proofs.YtfgnmnkihbgjnaaGreat
