import Derived.Test.YtgcepckaolkeoaaGreatDoorMY08
namespace Go.Proofs.YtgcepckaolkeoaaGreatDoor
open Go.RowKit
open Go.Proofs.Tryz
open Go renaming heap_alloc_new → hAN, heap_alloc_old → hAO, wpList_load_row → wpLr, wpQuiet_nil → wqN
open Go.World renaming block_lt_of_cell? → wJ, size_alloc → wU
open List renaming drop_succ_cons → dJ, drop_zero → dY, not_mem_nil → nY, replicate → rQ, take_succ_cons → tU, take_zero → tJ
open Nat renaming le_refl → nQ, lt_of_lt_of_le → nJ
set_option linter.unusedVariables false
set_option maxRecDepth 10000 in
set_option maxHeartbeats 4000000 in
theorem KU (l:List Int) (w:World) (hl:l.length=16) (h:bF l):
 Calls prog 102 #[.agg (Iv .u32 l)] w fun e w'=>e=.returned (.agg (Iv .u32 (bK l 10)))∧Below w.heap.size w w':=by
 have HI:Hid (∀L:List Int,L.length=16→(prog.info? 177).map (·.size)=some (Iv .u32 L).size):=fun L hL=>by rw[aD,hL];exact KN
 have HZ:Hid (∀L M:List Int,L.length=16→M.length=16→(Iv .u32 L).size=(Iv .u32 M).size):=fun L M hL hM=>by rw[aD,aD,hL,hM]
 go_enter func102,ntmps102
 go_wp2
 go_loopw [3] (fun r wr=>∃k:Nat,k≤10∧r=.int .i64 k∧aC wr w.heap.size .u32 (bK l k) 177∧aC wr (w.heap.size+1) .u32 (rQ 16 0) 177∧Below w.heap.size w wr) (fun r _=>10 - (intOf r).toNat)
 case atStart=>
  obtain⟨W,hW,h0,h1,hs,hb⟩:=kX w (.cells (Iv .u32 l) 177) (.cells (Iv .u32 (rQ 16 0)) 177)
  subst hW
  exact⟨0,by omega,rfl,h0,h1,hb⟩
 case round=>
  obtain⟨k,hk,rfl,hg,hg1,hbel⟩:=hrel
  by_cases hlt:k<10
  ·obtain⟨WX,rfl⟩:∃X,X=wr:=⟨_,rfl⟩
   go_wp2
   have hdec:decide ((k:Int)<10)=true:=by simp;omega
   simp only[hdec]
   clear hdec
   go_loopw [4] (fun r wr=>∃j:Nat,j≤8∧r=.int .i64 j∧aC wr w.heap.size .u32 (uN (bK l k) j) 177∧aC wr (w.heap.size+1) .u32 (rQ 16 0) 177∧Below w.heap.size w wr) (fun r _=>8 - (intOf r).toNat)
   case atStart=>exact⟨0,by omega,rfl,hg,hg1,hbel⟩
   case round=>
    obtain⟨j,hj,rfl,Z1,Z2,Z3⟩:=hrel
    clear hg hg1 hbel
    by_cases hltj:j<8
    ·obtain⟨l0,l1,l2,l3⟩:=aa3 j hltj
     obtain⟨b0,b1,b1',b2,b2',b3,b3'⟩:=aa2 j hltj
     have HL:Hid (uN (bK l k) (j+1)=iC (uN (bK l k) j) (q0 j) (q1 j) (q2 j) (q3 j)):=rfl
     have hLl:(uN (bK l k) j).length=16:=by rw[qW,gH,hl]
     have hLa:bF (uN (bK l k) j):=DF (pZ h k) j
     generalize uN (bK l k) j=L at*
     have hM:(iC L (q0 j) (q1 j) (q2 j) (q3 j)).length=16:=by rw[tA,hLl]
     have HQ:Hid (∀W,Calls prog 118 #[.agg (Iv .u32 L),.int .i64 (q0 j),.int .i64 (q1 j),.int .i64 (q2 j),.int .i64 (q3 j)] W fun e w'=>e=.returned (.agg (Iv .u32 (iC L (q0 j) (q1 j) (q2 j) (q3 j))))∧Below W.heap.size W w'):=fun W=>GT L _ _ _ _ W hLl hLa l0 l1 l2 l3 (by omega) (by omega) (by omega) (by omega) (by omega) (by omega)
     have HC:Hid (∀W,Calls prog 116 #[.int .i64 j] W fun e w'=>e=.returned (.tuple #[.int .i64 (q0 j),.int .i64 (q1 j),.int .i64 (q2 j),.int .i64 (q3 j)])∧w'=W):=fun W=>VQ j hltj W
     generalize q0 j=p0 at*
     generalize q1 j=p1 at*
     generalize q2 j=p2 at*
     generalize q3 j=p3 at*
     clear b0 b1 b1' b2 b2' b3 b3' hLa l0 l1 l2 l3
     have HI1:=HI.out L hLl
     have HI1':Hid (_=_):=HI1
     clear HI1
     go_wp2_with fail
     refine(HC.out _).mono ?_
     rintro e w1 ⟨rfl,rfl⟩
     go_wp2_with(refine wpLr rfl 177 _ rfl w.heap.size rfl _ (Iv .u32 L) _ _ Z1 underlying177 rfl HI1'.out ?_)
     refine(HQ.out _).mono ?_
     rintro e w2 ⟨rfl,hb2⟩
     have Y1:=Z1.below hb2 Z1.lt
     have Y2:=Z2.below hb2 Z2.lt
     have Y3:Below w.heap.size w w2:=Z3.trans (hb2.mono Z3.size)
     clear Z1 Z2 Z3 hb2 HC HQ
     have HI2:Hid ((prog.info? 177).map (·.size)=some (Iv .u32 (iC L p0 p1 p2 p3)).size):=HI.out _ hM
     have HZ2:Hid ((Iv .u32 L).size=(Iv .u32 (iC L p0 p1 p2 p3)).size):=HZ.out _ _ hLl hM
     have X1:Hid (aC (w2.setRow w.heap.size (Iv .u32 (iC L p0 p1 p2 p3))) w.heap.size .u32 (iC L p0 p1 p2 p3) 177):=Y1.put _ 0
     have X2:Hid (aC (w2.setRow w.heap.size (Iv .u32 (iC L p0 p1 p2 p3))) (w.heap.size+1) .u32 (rQ 16 0) 177):=Y2.far _ _ (by omega) 0
     have X3:Hid (Below w.heap.size w (w2.setRow w.heap.size (Iv .u32 (iC L p0 p1 p2 p3)))):=aM Y3 _ (nQ _) _
     go_wp2_with(refine wpList_store_row rfl 177 _ _ rfl w.heap.size (Iv .u32 (iC L p0 p1 p2 p3)) rfl rfl _ _ Y1 HI2.out HZ2.out (aG _ _) ?_)
     go_roundw
     case rel=>exact⟨j+1,by omega,by go_num,by rw[HL.out];exact X1.out,X2.out,X3.out⟩
     case measure=>simp[intOf];omega
    ·obtain rfl:j=8:=by omega
     go_wp2
     go_roundw
     case rel=>exact⟨k+1,by omega,by go_num,Z1,Z2,Z3⟩
     case measure=>simp[intOf];omega
  ·obtain rfl:k=10:=by omega
   have hL:(bK l 10).length=16:=by rw[gH,hl]
   have HI2:Hid ((prog.info? 177).map (·.size)=some (Iv .u32 (bK l 10)).size):=HI.out _ hL
   have HZ2:Hid ((Iv .u32 (rQ 16 0)).size=(Iv .u32 (bK l 10)).size):=HZ.out _ _ (by simp) hL
   go_wp2_with(first|refine wpLr rfl 177 _ rfl w.heap.size rfl _ (Iv .u32 (bK l 10)) _ _ hg underlying177 rfl HI2.out ?_ |refine wpList_store_row rfl 177 _ _ rfl (w.heap.size+1) (Iv .u32 (bK l 10)) rfl rfl _ _ hg1 HI2.out HZ2.out (aG _ _) ?_)
   refine oT (cs:=Iv .u32 (bK l 10)) results102 ?_ (setRow_heap _ _ _ _ _ _ hg1) underlying177 HI2.out ?_
   ·rfl
   ·exact⟨rfl,aM hbel _ (by omega) _⟩
theorem RT:(prog.info? 177).map (·.size)=some 16:=by kernel_rfl
theorem aaG:(prog.info? 22).map (·.size)=some 32:=by kernel_rfl
def U6:Oper:={ dst:=some 14,op:=Op.load 22 (Operand.tmp 3),type:=22,pos:= "l2_aead.go:48",after:=#[],guard:=none }
def U7:Oper:={ dst:=some 15,op:=Op.move (Operand.tmp 1),type:=23,pos:= "l2_aead.go:48",after:=#[],guard:=none }
def P5:Oper:={ dst:=some 16,op:=Op.buildSlice 102 1 #[(0,Operand.tmp 15)],type:=102,pos:= "l2_aead.go:48",after:=#[{ on:=1,ground:=Ground.data }],guard:=none }
def U8:Oper:={ dst:=some 17,op:=Op.slice 24 (Operand.tmp 5) none none none,type:=48,pos:= "l2_aead.go:48",after:=#[],guard:=none }
def P6:Oper:={ dst:=some 18,op:=Op.call { callee:=Callee.value (Operand.func 49),args:=#[Operand.tmp 17,Operand.const (Value.int IntKind.i64 3)],argTypes:=#[48,3] },type:=102,pos:= "l2_aead.go:48",after:=#[{ on:=3,ground:=Ground.data }],guard:=none }
def NH:Oper:={ dst:=some 19,op:=Op.call { callee:=Callee.builtin Builtin.append,args:=#[Operand.tmp 16,Operand.tmp 18],argTypes:=#[102,102] },type:=102,pos:= "l2_aead.go:48",after:=#[{ on:=2,ground:=Ground.data },{ on:=4,ground:=Ground.data },{ on:=4,ground:=Ground.chain }],guard:=none }
def NJ:Oper:={ dst:=some 20,op:=Op.call { callee:=Callee.value (Operand.func 101),args:=#[Operand.tmp 14,Operand.tmp 19],argTypes:=#[22,102] },type:=177,pos:= "l2_aead.go:48",after:=#[{ on:=0,ground:=Ground.data },{ on:=5,ground:=Ground.data },{ on:=5,ground:=Ground.chain }],guard:=none }
def U9:Oper:={ dst:=some 7,op:=Op.alloc 177,type:=0,pos:= "l2_aead.go:48",after:=#[],guard:=none }
def LA:Oper:={ dst:=none,op:=Op.store 177 (Operand.tmp 7) (Operand.tmp 20),type:=0,pos:= "l2_aead.go:48",after:=#[{ on:=7,ground:=Ground.data },{ on:=6,ground:=Ground.data },{ on:=6,ground:=Ground.chain },{ on:=0,ground:=Ground.phase },{ on:=1,ground:=Ground.phase },{ on:=2,ground:=Ground.phase },{ on:=3,ground:=Ground.phase },{ on:=4,ground:=Ground.phase },{ on:=5,ground:=Ground.phase },{ on:=6,ground:=Ground.phase },{ on:=7,ground:=Ground.phase }],guard:=none }
def oH:Array Oper:=#[U6,U7,P5,U8,P6,NH,NJ,U9,LA]
def IT (key nonce:List Int) (counter:Int) (b:Nat) (x7 x14 x15 x16 x17 x18 x19 x20:Value):Act:=
 { tmps:=#[.agg (Iv .u8 key),.int .u32 counter,.agg (Iv .u8 nonce),.pointer (some ⟨b,0,none⟩),undef,.pointer (some ⟨b+1,0,none⟩),.pointer (some ⟨b+1+1,0,none⟩),x7,undef,undef,undef,undef,undef,undef,x14,x15,x16,x17,x18,x19,x20,undef,undef,undef,undef,undef,undef,undef,undef,undef,undef,undef,undef,undef,undef,undef,undef,undef,undef,undef,undef,undef,undef,undef,undef,undef,undef,undef,undef,undef,undef,undef],defers:=[] }
def Lb (listed:Array Bool) (i:Nat):Bool:=listed.getD i false
theorem aI {listed:Array Bool} {i j:Nat} (h:i≠j):Lb (listed.setIfInBounds i true) j=Lb listed j:=getD_set_ne false h
theorem jG {listed:Array Bool} {i:Nat} (h:i<listed.size):Lb (listed.setIfInBounds i true) i=true:=by simp[Lb,h]
def k9 (key:List Int) (counter:Int) (ws:List Int):List Int:=pF9 (pF9 kM 4 (aF key) 8) 12 (aK (counter::ws)) 4
structure wP (key nonce:List Int) (counter:Int) (b:Nat) (W:World) (ws:List Int) (listed:Array Bool) (w:World) (x7 x14 x15 x16 x17 x18 x19 x20:Value):Prop where
 size:listed.size=9
 bel:Below W.heap.size W w
 p0:Lb listed 0=true→x14=.agg (Iv .u8 key)
 p1:Lb listed 1=true→x15=.int .u32 counter
 p3:Lb listed 3=true→x17=.slice (some ⟨b+1,0,none⟩) 12 12
 p2:Lb listed 2=true→Lb listed 5=true∨cC .u32 23 W.heap.size w x16 [counter]
 p4:Lb listed 4=true→Lb listed 5=true∨cC .u32 23 W.heap.size w x18 ws
 p5:Lb listed 5=true→Lb listed 6=true∨cC .u32 23 W.heap.size w x19 (counter::ws)
 p6:Lb listed 6=true→x20=.agg (Iv .u32 (k9 key counter ws))
 p8:Lb listed 8=true→Lb listed 7=true
 p7:Lb listed 7=true→∃g,x7=.pointer (some ⟨g,0,none⟩)∧W.heap.size≤g∧w.heap[g]? =some (.cells (Iv .u32 (if Lb listed 8 then k9 key counter ws else aA 16)) 177)∧(Lb listed 2=true→Lb listed 5=true∨x16.ownBlock≠some g)
def qY (key nonce:List Int) (counter:Int) (b:Nat) (W:World) (ws:List Int) (listed:Array Bool) (a:Act) (w:World):Prop:=
 ∃x7 x14 x15 x16 x17 x18 x19 x20,a=IT key nonce counter b x7 x14 x15 x16 x17 x18 x19 x20∧wP key nonce counter b W ws listed w x7 x14 x15 x16 x17 x18 x19 x20
theorem jZ {listed:Array Bool} (hs:listed.size=9) (hr:Region.ready .any oH listed=[]) {i:Nat} (o:Oper) (ho:oH[i]? =some o) (hi:i<9) (hdep:∀e∈o.after,Lb listed e.on=true):Lb listed i=true:=by
 cases hb:Lb listed i with
 | true=>rfl
 | false=>
   have h1:listed.getD i true=false:=by
    have hlt:i<listed.size:=by omega
    simp only[Lb,Array.getD,hlt,dif_pos]at hb⊢
    exact hb
   have:i∈Region.ready .any oH listed:=mem_ready.2 ⟨h1,o,ho,fun e he _=>hdep e he⟩
   rw[hr]at this
   cases this
theorem ZW {listed:Array Bool} (hs:listed.size=9) (hr:Region.ready .any oH listed=[]):Lb listed 7=true∧Lb listed 8=true:=by
 have l0:=jZ hs hr (i:=0) U6 rfl (by omega) (by unfold U6;simp only[List.mem_toArray,nY,false_implies,implies_true])
 have l1:=jZ hs hr (i:=1) U7 rfl (by omega) (by unfold U7;simp only[List.mem_toArray,nY,false_implies,implies_true])
 have l3:=jZ hs hr (i:=3) U8 rfl (by omega) (by unfold U8;simp only[List.mem_toArray,nY,false_implies,implies_true])
 have l7:=jZ hs hr (i:=7) U9 rfl (by omega) (by unfold U9;simp only[List.mem_toArray,nY,false_implies,implies_true])
 have l2:=jZ hs hr (i:=2) P5 rfl (by omega) (by unfold P5;simp only[List.mem_toArray,List.mem_cons,nY,or_false,forall_eq,l1])
 have l4:=jZ hs hr (i:=4) P6 rfl (by omega) (by unfold P6;simp only[List.mem_toArray,List.mem_cons,nY,or_false,forall_eq,l3])
 have l5:=jZ hs hr (i:=5) NH rfl (by omega) (by unfold NH;simp only[List.mem_toArray,List.mem_cons,nY,or_false,forall_eq_or_imp,forall_eq,l2,l4,and_self])
 have l6:=jZ hs hr (i:=6) NJ rfl (by omega) (by unfold NJ;simp only[List.mem_toArray,List.mem_cons,nY,or_false,forall_eq_or_imp,forall_eq,l0,l5,and_self])
 have l8:=jZ hs hr (i:=8) LA rfl (by omega) (by unfold LA;simp only[List.mem_toArray,List.mem_cons,nY,or_false,forall_eq_or_imp,forall_eq,l0,l1,l2,l3,l4,l5,l6,l7,and_self])
 exact⟨l7,l8⟩
theorem oW {listed:Array Bool} {i:Nat} (h:i∈Region.ready .any oH listed) (o:Oper) (ho:oH[i]? =some o):listed.getD i true=false∧∀e∈o.after,Region.binds .any e=true→Lb listed e.on=true:=by
 obtain⟨h1,o',ho',hd⟩:=mem_ready.1 h
 rw[ho]at ho'
 cases ho'
 exact⟨h1,hd⟩
theorem jD {listed:Array Bool} {i:Nat} (h:listed.getD i true=false):i<listed.size∧Lb listed i=false:=by
 have hlt:i<listed.size:=by
  rcases Nat.lt_or_ge i listed.size with h1|h1
  ·exact h1
  ·simp[Array.getD,Nat.not_lt.2 h1]at h
 refine⟨hlt,?_⟩
 simp only[Lb,Array.getD,hlt,dif_pos]at h⊢
 exact h
section
variable {key nonce:List Int} {counter:Int} {b:Nat} {W:World} {ws:List Int} {listed:Array Bool} {w:World} {x7 x14 x15 x16 x17 x18 x19 x20:Value} {Q:Exit→Act→World→Prop}
set_option maxRecDepth 10000 in
set_option maxHeartbeats 2000000 in
theorem ab4 (h:wP key nonce counter b W ws listed w x7 x14 x15 x16 x17 x18 x19 x20) (hi:0∈Region.ready .any oH listed) (hk:key.length=32) (hk0:W.heap[b]? =some (.cells (Iv .u8 key) 22)) (hb0:b<W.heap.size):
 wpList prog oH (cJ (qY key nonce counter b W ws (listed.setIfInBounds 0 true)) Q) [U6] (IT key nonce counter b x7 x14 x15 x16 x17 x18 x19 x20) w:=by
 obtain⟨hn1,hdep⟩:=oW hi U6 rfl
 obtain⟨hlt,hno⟩:=jD hn1
 have G0:Hid _:=(h.bel.block b hb0).trans hk0
 have hik:Hid ((prog.info? 22).map (·.size)=some (Iv .u8 key).size):=by show _=_;rw[aD,hk];exact aaG
 have HH:Hid _:=h
 clear h hdep hn1 hk0
 unfold IT U6
 go_wp2_with(refine wpLr rfl 22 _ rfl b rfl _ (Iv .u8 key) _ _ G0.out underlying22 rfl hik.out ?_)
 have h:=HH.out
 have hb:=Below.refl w.heap.size w
 refine⟨_,_,_,_,_,_,_,_,rfl,{ 
  size:=by simpa using h.size
  bel:=h.bel.trans (hb.mono h.bel.size)
  p0:=fun _=>rfl
  p1:=fun hl=>h.p1 (by rwa[aI (by omega)]at hl)
  p3:=fun hl=>h.p3 (by rwa[aI (by omega)]at hl)
  p6:=fun hl=>h.p6 (by rwa[aI (by omega)]at hl)
  p2:=fun hl=>(h.p2 (by rwa[aI (by omega)]at hl)).imp (fun e=>by rw[aI (by omega)];exact e) (fun o=>o.later hb)
  p4:=fun hl=>(h.p4 (by rwa[aI (by omega)]at hl)).imp (fun e=>by rw[aI (by omega)];exact e) (fun o=>o.later hb)
  p5:=fun hl=>(h.p5 (by rwa[aI (by omega)]at hl)).imp (fun e=>by rw[aI (by omega)];exact e) (fun o=>o.later hb)
  p7:=fun hl=>by
   obtain⟨g,e1,e2,e3,e4⟩:=h.p7 (by rwa[aI (by omega)]at hl)
   refine⟨g,e1,e2,?_,fun hl2=>(e4 (by rwa[aI (by omega)]at hl2)).imp (fun e=>by rw[aI (by omega)];exact e) id⟩
   rw[aI (by omega),hb.block g (Array.getElem?_eq_some_iff.1 e3).1]
   exact e3
  p8:=fun hl=>by first|(rw[aI (by omega)]at hl⊢;exact h.p8 hl)|exact jG hlt }⟩
set_option maxRecDepth 10000 in
set_option maxHeartbeats 2000000 in
theorem ab5 (h:wP key nonce counter b W ws listed w x7 x14 x15 x16 x17 x18 x19 x20) (hi:1∈Region.ready .any oH listed):
 wpList prog oH (cJ (qY key nonce counter b W ws (listed.setIfInBounds 1 true)) Q) [U7] (IT key nonce counter b x7 x14 x15 x16 x17 x18 x19 x20) w:=by
 obtain⟨hn1,hdep⟩:=oW hi U7 rfl
 obtain⟨hlt,hno⟩:=jD hn1
 have HH:Hid _:=h
 clear h hdep hn1
 unfold IT U7
 go_wp2_with fail
 have h:=HH.out
 have hb:=Below.refl w.heap.size w
 refine⟨_,_,_,_,_,_,_,_,rfl,{ 
  size:=by simpa using h.size
  bel:=h.bel.trans (hb.mono h.bel.size)
  p0:=fun hl=>h.p0 (by rwa[aI (by omega)]at hl)
  p1:=fun _=>rfl
  p3:=fun hl=>h.p3 (by rwa[aI (by omega)]at hl)
  p6:=fun hl=>h.p6 (by rwa[aI (by omega)]at hl)
  p2:=fun hl=>(h.p2 (by rwa[aI (by omega)]at hl)).imp (fun e=>by rw[aI (by omega)];exact e) (fun o=>o.later hb)
  p4:=fun hl=>(h.p4 (by rwa[aI (by omega)]at hl)).imp (fun e=>by rw[aI (by omega)];exact e) (fun o=>o.later hb)
  p5:=fun hl=>(h.p5 (by rwa[aI (by omega)]at hl)).imp (fun e=>by rw[aI (by omega)];exact e) (fun o=>o.later hb)
  p7:=fun hl=>by
   obtain⟨g,e1,e2,e3,e4⟩:=h.p7 (by rwa[aI (by omega)]at hl)
   refine⟨g,e1,e2,?_,fun hl2=>(e4 (by rwa[aI (by omega)]at hl2)).imp (fun e=>by rw[aI (by omega)];exact e) id⟩
   rw[aI (by omega),hb.block g (Array.getElem?_eq_some_iff.1 e3).1]
   exact e3
  p8:=fun hl=>by first|(rw[aI (by omega)]at hl⊢;exact h.p8 hl)|exact jG hlt }⟩
set_option maxRecDepth 10000 in
set_option maxHeartbeats 2000000 in
theorem ab7 (h:wP key nonce counter b W ws listed w x7 x14 x15 x16 x17 x18 x19 x20) (hi:3∈Region.ready .any oH listed):
 wpList prog oH (cJ (qY key nonce counter b W ws (listed.setIfInBounds 3 true)) Q) [U8] (IT key nonce counter b x7 x14 x15 x16 x17 x18 x19 x20) w:=by
 obtain⟨hn1,hdep⟩:=oW hi U8 rfl
 obtain⟨hlt,hno⟩:=jD hn1
 have HH:Hid _:=h
 clear h hdep hn1
 unfold IT U8
 go_wp2_with fail
 have h:=HH.out
 have hb:=Below.refl w.heap.size w
 refine⟨_,_,_,_,_,_,_,_,rfl,{ 
  size:=by simpa using h.size
  bel:=h.bel.trans (hb.mono h.bel.size)
  p0:=fun hl=>h.p0 (by rwa[aI (by omega)]at hl)
  p1:=fun hl=>h.p1 (by rwa[aI (by omega)]at hl)
  p3:=fun _=>rfl
  p6:=fun hl=>h.p6 (by rwa[aI (by omega)]at hl)
  p2:=fun hl=>(h.p2 (by rwa[aI (by omega)]at hl)).imp (fun e=>by rw[aI (by omega)];exact e) (fun o=>o.later hb)
  p4:=fun hl=>(h.p4 (by rwa[aI (by omega)]at hl)).imp (fun e=>by rw[aI (by omega)];exact e) (fun o=>o.later hb)
  p5:=fun hl=>(h.p5 (by rwa[aI (by omega)]at hl)).imp (fun e=>by rw[aI (by omega)];exact e) (fun o=>o.later hb)
  p7:=fun hl=>by
   obtain⟨g,e1,e2,e3,e4⟩:=h.p7 (by rwa[aI (by omega)]at hl)
   refine⟨g,e1,e2,?_,fun hl2=>(e4 (by rwa[aI (by omega)]at hl2)).imp (fun e=>by rw[aI (by omega)];exact e) id⟩
   rw[aI (by omega),hb.block g (Array.getElem?_eq_some_iff.1 e3).1]
   exact e3
  p8:=fun hl=>by first|(rw[aI (by omega)]at hl⊢;exact h.p8 hl)|exact jG hlt }⟩
set_option maxRecDepth 10000 in
set_option maxHeartbeats 2000000 in
theorem ab6 (h:wP key nonce counter b W ws listed w x7 x14 x15 x16 x17 x18 x19 x20) (hi:2∈Region.ready .any oH listed):
 wpList prog oH (cJ (qY key nonce counter b W ws (listed.setIfInBounds 2 true)) Q) [P5] (IT key nonce counter b x7 x14 x15 x16 x17 x18 x19 x20) w:=by
 obtain⟨hn1,hdep⟩:=oW hi P5 rfl
 obtain⟨hlt,hno⟩:=jD hn1
 have l1:Lb listed 1=true:=hdep { on:=1,ground:=Ground.data } (by unfold P5;simp) rfl
 obtain rfl:=h.p1 l1
 have HH:Hid _:=h
 clear h hdep hn1
 unfold IT P5
 go_wp2_with fail
 have h:=HH.out
 have hb:Below w.heap.size w (w.alloc (.cells #[.int .u32 counter] 23)):=(Below.refl _ _).alloc (nQ _) _
 refine⟨_,_,_,_,_,_,_,_,rfl,{ 
  size:=by simpa using h.size
  bel:=h.bel.trans (hb.mono h.bel.size)
  p0:=fun hl=>h.p0 (by rwa[aI (by omega)]at hl)
  p1:=fun hl=>h.p1 (by rwa[aI (by omega)]at hl)
  p3:=fun hl=>h.p3 (by rwa[aI (by omega)]at hl)
  p6:=fun hl=>h.p6 (by rwa[aI (by omega)]at hl)
  p2:=fun _=>.inr (cC.one w counter h.bel.size)
  p4:=fun hl=>(h.p4 (by rwa[aI (by omega)]at hl)).imp (fun e=>by rw[aI (by omega)];exact e) (fun o=>o.later hb)
  p5:=fun hl=>(h.p5 (by rwa[aI (by omega)]at hl)).imp (fun e=>by rw[aI (by omega)];exact e) (fun o=>o.later hb)
  p7:=fun hl=>by
   obtain⟨g,e1,e2,e3,e4⟩:=h.p7 (by rwa[aI (by omega)]at hl)
   have hg:=(Array.getElem?_eq_some_iff.1 e3).1
   refine⟨g,e1,e2,?_,fun _=>.inr ?_⟩
   ·rw[aI (by omega),hb.block g hg]
    exact e3
   ·intro e
    have:w.heap.size=g:=by simpa[Value.ownBlock]using e
    omega
  p8:=fun hl=>by first|(rw[aI (by omega)]at hl⊢;exact h.p8 hl)|exact jG hlt }⟩
set_option maxRecDepth 10000 in
set_option maxHeartbeats 2000000 in
theorem ab8 (h:wP key nonce counter b W ws listed w x7 x14 x15 x16 x17 x18 x19 x20) (hi:4∈Region.ready .any oH listed) (hr:nonce.length=12) (hrb:aE nonce) (hn0:W.heap[b+1]? =some (.cells (Iv .u8 nonce) 24)) (hb0:b+1<W.heap.size) (hws:ws=bG nonce 3):
 wpList prog oH (cJ (qY key nonce counter b W ws (listed.setIfInBounds 4 true)) Q) [P6] (IT key nonce counter b x7 x14 x15 x16 x17 x18 x19 x20) w:=by
 obtain⟨hn1,hdep⟩:=oW hi P6 rfl
 obtain⟨hlt,hno⟩:=jD hn1
 have l3:Lb listed 3=true:=hdep { on:=3,ground:=Ground.data } (by unfold P6;simp) rfl
 obtain rfl:=h.p3 l3
 have hrow:=(h.bel.block (b+1) hb0).trans hn0
 have hrd:ZK .u8 w (some ⟨b+1,0,none⟩) nonce:=by
  intro i hi
  refine⟨b+1,0,rfl,?_⟩
  rw[Nat.zero_add,cell_of_row _ _ _ _ _ _ hrow,cN .u8 _ i hi,List.getD_eq_getElem?_getD,List.getElem?_eq_getElem hi]
  rfl
 have hcall:=AL nonce 12 3 hr hrb (by omega) (by omega) (some ⟨b+1,0,none⟩) 12 w hrd
 have HC:Hid _:=hcall
 have HH:Hid _:=h
 clear h hdep hn1 hrow hrd hcall hn0
 unfold IT P6
 go_wp2_with fail
 refine Calls.mono HC.out ?_
 rintro e w' ⟨v,rfl,ho,hb⟩
 rw[←hws]at ho
 go_wp2_with fail
 have h:=HH.out
 refine⟨_,_,_,_,_,_,_,_,rfl,{ 
  size:=by simpa using h.size
  bel:=h.bel.trans (hb.mono h.bel.size)
  p0:=fun hl=>h.p0 (by rwa[aI (by omega)]at hl)
  p1:=fun hl=>h.p1 (by rwa[aI (by omega)]at hl)
  p3:=fun hl=>h.p3 (by rwa[aI (by omega)]at hl)
  p6:=fun hl=>h.p6 (by rwa[aI (by omega)]at hl)
  p2:=fun hl=>(h.p2 (by rwa[aI (by omega)]at hl)).imp (fun e=>by rw[aI (by omega)];exact e) (fun o=>o.later hb)
  p4:=fun _=>.inr (ho.mono h.bel.size)
  p5:=fun hl=>(h.p5 (by rwa[aI (by omega)]at hl)).imp (fun e=>by rw[aI (by omega)];exact e) (fun o=>o.later hb)
  p7:=fun hl=>by
   obtain⟨g,e1,e2,e3,e4⟩:=h.p7 (by rwa[aI (by omega)]at hl)
   refine⟨g,e1,e2,?_,fun hl2=>(e4 (by rwa[aI (by omega)]at hl2)).imp (fun e=>by rw[aI (by omega)];exact e) id⟩
   rw[aI (by omega),hb.block g (Array.getElem?_eq_some_iff.1 e3).1]
   exact e3
  p8:=fun hl=>by first|(rw[aI (by omega)]at hl⊢;exact h.p8 hl)|exact jG hlt }⟩
set_option maxRecDepth 10000 in
set_option maxHeartbeats 2000000 in
theorem ab9 (h:wP key nonce counter b W ws listed w x7 x14 x15 x16 x17 x18 x19 x20) (hi:5∈Region.ready .any oH listed) (hwl:ws.length=3):
 wpList prog oH (cJ (qY key nonce counter b W ws (listed.setIfInBounds 5 true)) Q) [NH] (IT key nonce counter b x7 x14 x15 x16 x17 x18 x19 x20) w:=by
 obtain⟨hn1,hdep⟩:=oW hi NH rfl
 obtain⟨hlt,hno⟩:=jD hn1
 have l2:Lb listed 2=true:=hdep { on:=2,ground:=Ground.data } (by unfold NH;simp) rfl
 have l4:Lb listed 4=true:=hdep { on:=4,ground:=Ground.data } (by unfold NH;simp) rfl
 have o16:=(h.p2 l2).resolve_left (by rw[hno];simp)
 have o18:=(h.p4 l4).resolve_left (by rw[hno];simp)
 obtain⟨_,hbad⟩|⟨g18,c18,rfl,_,hg18,_,_,hcell,_⟩:=o18.at
 ·rw[hbad]at hwl;simp at hwl
 have HO:Hid _:=o16
 have HB:Hid _:=h.bel
 have HN:Hid (∀j,j<3→w.cell? ⟨g18,0+j,none⟩=some (.int .u32 (ws.getD j 0))):=fun j hj=>by rw[Nat.zero_add];exact hcell j (by omega)
 have HL:Hid (ws.length=3):=hwl
 have HH:Hid _:=h
 rw[hwl]
 clear h hdep hn1 o16 o18 hcell
 unfold IT NH
 refine dG .u32 102 23 4 underlying102 s7 (by decide) rfl (.tmp 16) (.tmp 18) rfl W.heap.size W w x16 [counter] g18 0 3 c18 ws HL.out rfl rfl HO.out HB.out HB.out.size (by simp) HN.out ?_
 intro v' w' ho hb2 hgr hblk
 simp only[pS]
 go_wp2_with fail
 have h:=HH.out
 refine⟨_,_,_,_,_,_,_,_,rfl,{ 
  size:=by simpa using h.size
  bel:=hb2
  p0:=fun hl=>h.p0 (by rwa[aI (by omega)]at hl)
  p1:=fun hl=>h.p1 (by rwa[aI (by omega)]at hl)
  p3:=fun hl=>h.p3 (by rwa[aI (by omega)]at hl)
  p6:=fun hl=>h.p6 (by rwa[aI (by omega)]at hl)
  p2:=fun _=>.inl (jG hlt)
  p4:=fun _=>.inl (jG hlt)
  p5:=fun _=>.inr ho
  p7:=fun hl=>by
   obtain⟨g,e1,e2,e3,e4⟩:=h.p7 (by rwa[aI (by omega)]at hl)
   refine⟨g,e1,e2,?_,fun _=>.inl (jG hlt)⟩
   rw[aI (by omega),hgr.block g (Array.getElem?_eq_some_iff.1 e3).1 (fun e=>((e4 l2).resolve_left (by rw[hno];simp)) e.symm)]
   exact e3
  p8:=fun hl=>by first|(rw[aI (by omega)]at hl⊢;exact h.p8 hl)|exact jG hlt }⟩
set_option maxRecDepth 10000 in
set_option maxHeartbeats 2000000 in
theorem acA (h:wP key nonce counter b W ws listed w x7 x14 x15 x16 x17 x18 x19 x20) (hi:6∈Region.ready .any oH listed) (hk:key.length=32) (hkb:aE key) (hwl:ws.length=3):
 wpList prog oH (cJ (qY key nonce counter b W ws (listed.setIfInBounds 6 true)) Q) [NJ] (IT key nonce counter b x7 x14 x15 x16 x17 x18 x19 x20) w:=by
 obtain⟨hn1,hdep⟩:=oW hi NJ rfl
 obtain⟨hlt,hno⟩:=jD hn1
 have l0:Lb listed 0=true:=hdep { on:=0,ground:=Ground.data } (by unfold NJ;simp) rfl
 have l5:Lb listed 5=true:=hdep { on:=5,ground:=Ground.data } (by unfold NJ;simp) rfl
 obtain rfl:=h.p0 l0
 have o19:=(h.p5 l5).resolve_left (by rw[hno];simp)
 obtain⟨a,n,cap,rfl,hn,hrd⟩:=o19.rdk
 have hn4:n=4:=by rw[hn];simp[hwl]
 subst hn4
 have hcall:=M6 key (counter::ws) 4 w hk hkb (by simp[hwl]) (by omega) a cap hrd
 have HC:Hid _:=hcall
 have HH:Hid _:=h
 clear h hdep hn1 hcall hrd o19 hn
 unfold IT NJ
 go_wp2_with fail
 refine Calls.mono HC.out ?_
 rintro e w' ⟨rfl,hb⟩
 go_wp2_with fail
 have h:=HH.out
 refine⟨_,_,_,_,_,_,_,_,rfl,{ 
  size:=by simpa using h.size
  bel:=h.bel.trans (hb.mono h.bel.size)
  p0:=fun hl=>h.p0 (by rwa[aI (by omega)]at hl)
  p1:=fun hl=>h.p1 (by rwa[aI (by omega)]at hl)
  p3:=fun hl=>h.p3 (by rwa[aI (by omega)]at hl)
  p6:=fun _=>rfl
  p2:=fun hl=>(h.p2 (by rwa[aI (by omega)]at hl)).imp (fun e=>by rw[aI (by omega)];exact e) (fun o=>o.later hb)
  p4:=fun hl=>(h.p4 (by rwa[aI (by omega)]at hl)).imp (fun e=>by rw[aI (by omega)];exact e) (fun o=>o.later hb)
  p5:=fun _=>.inl (jG hlt)
  p7:=fun hl=>by
   obtain⟨g,e1,e2,e3,e4⟩:=h.p7 (by rwa[aI (by omega)]at hl)
   refine⟨g,e1,e2,?_,fun hl2=>(e4 (by rwa[aI (by omega)]at hl2)).imp (fun e=>by rw[aI (by omega)];exact e) id⟩
   rw[aI (by omega),hb.block g (Array.getElem?_eq_some_iff.1 e3).1]
   exact e3
  p8:=fun hl=>by first|(rw[aI (by omega)]at hl⊢;exact h.p8 hl)|exact jG hlt }⟩
set_option maxRecDepth 10000 in
set_option maxHeartbeats 2000000 in
theorem acB (h:wP key nonce counter b W ws listed w x7 x14 x15 x16 x17 x18 x19 x20) (hi:7∈Region.ready .any oH listed):
 wpList prog oH (cJ (qY key nonce counter b W ws (listed.setIfInBounds 7 true)) Q) [U9] (IT key nonce counter b x7 x14 x15 x16 x17 x18 x19 x20) w:=by
 obtain⟨hn1,hdep⟩:=oW hi U9 rfl
 obtain⟨hlt,hno⟩:=jD hn1
 have hzv:∀W,(zeroValue 177).run prog W=.ok (.agg (Iv .u32 (aA 16))) W:=(zero_of_info (n:=16) (by kernel_rfl)).1
 have hno8:Lb listed 8=false:=by
  cases h8:Lb listed 8 with
  | false=>rfl
  | true=>exact absurd (h.p8 h8) (by rw[hno];simp)
 have HH:Hid _:=h
 clear h hdep hn1
 unfold IT U9
 go_wp2_with fail
 have h:=HH.out
 have hb:Below w.heap.size w (w.alloc (.cells (Iv .u32 (aA 16)) 177)):=(Below.refl _ _).alloc (nQ _) _
 refine⟨_,_,_,_,_,_,_,_,rfl,{ 
  size:=by simpa using h.size
  bel:=h.bel.trans (hb.mono h.bel.size)
  p0:=fun hl=>h.p0 (by rwa[aI (by omega)]at hl)
  p1:=fun hl=>h.p1 (by rwa[aI (by omega)]at hl)
  p3:=fun hl=>h.p3 (by rwa[aI (by omega)]at hl)
  p6:=fun hl=>h.p6 (by rwa[aI (by omega)]at hl)
  p2:=fun hl=>(h.p2 (by rwa[aI (by omega)]at hl)).imp (fun e=>by rw[aI (by omega)];exact e) (fun o=>o.later hb)
  p4:=fun hl=>(h.p4 (by rwa[aI (by omega)]at hl)).imp (fun e=>by rw[aI (by omega)];exact e) (fun o=>o.later hb)
  p5:=fun hl=>(h.p5 (by rwa[aI (by omega)]at hl)).imp (fun e=>by rw[aI (by omega)];exact e) (fun o=>o.later hb)
  p7:=fun _=>by
   refine⟨w.heap.size,rfl,h.bel.size,?_,fun hl2=>?_⟩
   ·rw[aI (by omega),hno8]
    exact hAN _ _
   ·rw[aI (by omega)]at hl2⊢
    refine(h.p2 hl2).imp id (fun o e=>?_)
    have:=(o.lt _ e).2
    omega
  p8:=fun hl=>by first|(rw[aI (by omega)]at hl⊢;exact h.p8 hl)|exact jG hlt }⟩
set_option maxRecDepth 10000 in
set_option maxHeartbeats 2000000 in
theorem acC (h:wP key nonce counter b W ws listed w x7 x14 x15 x16 x17 x18 x19 x20) (hi:8∈Region.ready .any oH listed) (hst:(k9 key counter ws).length=16):
 wpList prog oH (cJ (qY key nonce counter b W ws (listed.setIfInBounds 8 true)) Q) [LA] (IT key nonce counter b x7 x14 x15 x16 x17 x18 x19 x20) w:=by
 obtain⟨hn1,hdep⟩:=oW hi LA rfl
 obtain⟨hlt,hno⟩:=jD hn1
 have l7:Lb listed 7=true:=hdep { on:=7,ground:=Ground.data } (by unfold LA;simp) rfl
 have l6:Lb listed 6=true:=hdep { on:=6,ground:=Ground.data } (by unfold LA;simp) rfl
 have l5:Lb listed 5=true:=hdep { on:=5,ground:=Ground.phase } (by unfold LA;simp) rfl
 obtain rfl:=h.p6 l6
 obtain⟨g,rfl,hg,hrow,_⟩:=h.p7 l7
 rw[hno,if_neg (by simp)]at hrow
 have HR:Hid _:=hrow
 have hik:Hid ((prog.info? 177).map (·.size)=some (Iv .u32 (k9 key counter ws)).size):=by show _=_;rw[aD,hst];exact RT
 have hiz:Hid ((Iv .u32 (aA 16)).size=(Iv .u32 (k9 key counter ws)).size):=by show _=_;rw[aD,aD,hst];rfl
 have HH:Hid _:=h
 clear h hdep hn1 hrow hst
 unfold IT LA
 refine wpPr rfl 177 (.tmp 7) (.tmp 20) rfl g (Iv .u32 (k9 key counter ws)) rfl rfl _ _ HR.out hik.out hiz.out (aG _ _) ?_
 intro w' hP
 simp only[Act.put]
 go_wp2_with fail
 have h:=HH.out
 refine⟨_,_,_,_,_,_,_,_,rfl,{ 
  size:=by simpa using h.size
  bel:=hP.below _ _ h.bel hg
  p0:=fun hl=>h.p0 (by rwa[aI (by omega)]at hl)
  p1:=fun hl=>h.p1 (by rwa[aI (by omega)]at hl)
  p3:=fun hl=>h.p3 (by rwa[aI (by omega)]at hl)
  p6:=fun hl=>h.p6 (by rwa[aI (by omega)]at hl)
  p2:=fun _=>.inl (by rw[aI (by omega)];exact l5)
  p4:=fun _=>.inl (by rw[aI (by omega)];exact l5)
  p5:=fun _=>.inl (by rw[aI (by omega)];exact l6)
  p7:=fun _=>by
   refine⟨g,rfl,hg,?_,fun _=>.inl (by rw[aI (by omega)];exact l5)⟩
   rw[jG hlt,if_pos rfl]
   exact hP.here
  p8:=fun _=>by rw[aI (by omega)];exact l7 }⟩
end
theorem afG (x:Int) (w:World) (h:fU x):Calls prog 156 #[.int .u32 x,.int .i64 16] w fun e w'=>e=.returned (.int .u32 (rl 16 x))∧w'=w:=by
 have hr:=(afC x h).2
 have hm:bits .and .u64 16 31=16:=by kernel_rfl
 obtain⟨h0,h1⟩:=h
 go_enter func156,ntmps156
 go_wp2
 go_ret
 exact⟨rfl,rfl⟩
theorem afF (x:Int) (w:World) (h:fU x):Calls prog 156 #[.int .u32 x,.int .i64 12] w fun e w'=>e=.returned (.int .u32 (rl 12 x))∧w'=w:=by
 have hr:=(agH x h).2
 have hm:bits .and .u64 12 31=12:=by kernel_rfl
 obtain⟨h0,h1⟩:=h
 go_enter func156,ntmps156
 go_wp2
 go_ret
 exact⟨rfl,rfl⟩
theorem agK (x:Int) (w:World) (h:fU x):Calls prog 156 #[.int .u32 x,.int .i64 8] w fun e w'=>e=.returned (.int .u32 (rl 8 x))∧w'=w:=by
 have hr:=(rl8 x h).2
 have hm:bits .and .u64 8 31=8:=by kernel_rfl
 obtain⟨h0,h1⟩:=h
 go_enter func156,ntmps156
 go_wp2
 go_ret
 exact⟨rfl,rfl⟩
theorem agJ (x:Int) (w:World) (h:fU x):Calls prog 156 #[.int .u32 x,.int .i64 7] w fun e w'=>e=.returned (.int .u32 (rl 7 x))∧w'=w:=by
 have hr:=(rl7 x h).2
 have hm:bits .and .u64 7 31=7:=by kernel_rfl
 obtain⟨h0,h1⟩:=h
 go_enter func156,ntmps156
 go_wp2
 go_ret
 exact⟨rfl,rfl⟩
set_option maxHeartbeats 1000000 in
theorem NW (a b c d:Int) (w:World) (ha:fU a) (hb:fU b) (hc:fU c) (hd:fU d):
 Calls prog 157 #[.int .u32 a,.int .u32 b,.int .u32 c,.int .u32 d] w fun e w'=>e=.returned (.tuple #[.int .u32 (qA a b c d),.int .u32 (qB a b c d),.int .u32 (qC a b c d),.int .u32 (qD a b c d)])∧w'=w:=by
 go_enter func157,ntmps157
 go_wp2_with fail
 refine(afG _ _ (iR _ _)).mono ?_
 rintro e w1 ⟨rfl,rfl⟩
 go_wp2_with fail
 refine(afF _ _ (iR _ _)).mono ?_
 rintro e w1 ⟨rfl,rfl⟩
 go_wp2_with fail
 refine(agK _ _ (iR _ _)).mono ?_
 rintro e w1 ⟨rfl,rfl⟩
 go_wp2_with fail
 refine(agJ _ _ (iR _ _)).mono ?_
 rintro e w1 ⟨rfl,rfl⟩
 go_wp2
 refine bodyPost_ret (v:=.tuple #[.int .u32 _,.int .u32 _,.int .u32 _,.int .u32 _]) (by simp[results,results157,go_sem,qA,qB,qC,qD,ad]) rfl ⟨rfl,rfl⟩
theorem FF:prog.follows .mixedOrders=true:=by kernel_rfl
theorem yZ:(prog.info? 177).map (·.size)=some 16:=by kernel_rfl
theorem jB {W W0:World} {g p:Nat} {v:Value} (h:∃cs,W.drew=W0.drew.setRow g cs):∃cs,(W.setCell ⟨g,p,none⟩ v).drew=W0.drew.setRow g cs:=by
 obtain⟨cs,h⟩:=h
 refine⟨cs.setIfInBounds p v,?_⟩
 rw[←aL,←h]
 rfl
def jO (w:World):Prop:=∀i,i<8→w.cell? ⟨2,i*4,none⟩=some (.int .u8 (q0 i))∧w.cell? ⟨2,i*4+1,none⟩=some (.int .u8 (q1 i))∧w.cell? ⟨2,i*4+2,none⟩=some (.int .u8 (q2 i))∧w.cell? ⟨2,i*4+3,none⟩=some (.int .u8 (q3 i))
theorem jO.later {B:Nat} {w w':World} (h:jO w) (hb:Below B w w') (hB:w.heap.size≤B):jO w':=by
 intro i hi
 obtain⟨t0,t1,t2,t3⟩:=h i hi
 have l0:=wJ _ _ t0
 exact⟨(hb.cell (p:=⟨2,i*4,none⟩) (nJ l0 hB)).trans t0,(hb.cell (p:=⟨2,i*4+1,none⟩) (nJ l0 hB)).trans t1,(hb.cell (p:=⟨2,i*4+2,none⟩) (nJ l0 hB)).trans t2,(hb.cell (p:=⟨2,i*4+3,none⟩) (nJ l0 hB)).trans t3⟩
set_option maxHeartbeats 4000000 in
theorem GJ (l:List Int) (w:World) (hl:l.length=16) (h:bF l) (ht:jO w):
 Calls prog 149 #[.agg (Iv .u32 l)] w fun e w'=>e=.returned (.agg (Iv .u32 (bK l 10)))∧Below w.heap.size w w':=by
 go_enter func149,ntmps149
 go_wp2
 go_loopw [5] (fun r wr=>∃k:Nat,k≤10∧r=.int .i64 k∧wr.heap[w.heap.size]? =some (.cells (Iv .u32 (bK l k)) 177)∧wr.heap[w.heap.size+1]? =some (.cells (Iv .u32 (rQ 16 0)) 177)∧Below w.heap.size w wr) (fun r _=>10 - (intOf r).toNat)
 case atStart=>
  refine⟨0,by omega,rfl,?_,?_,?_⟩
  ·simp only[bO,wU];simp[bK]
  ·simp only[bO,wU];simp;rfl
  ·exact((Below.refl _ _).alloc (by simp) _).alloc (by simp) _
 case round=>
  obtain⟨k,hk,rfl,hg,hg1,hbel⟩:=hrel
  by_cases hlt:k<10
  ·obtain⟨WX,rfl⟩:∃X,X=wr:=⟨_,rfl⟩
   go_wp2
   have hdec:decide ((k:Int)<10)=true:=by simp;omega
   simp only[hdec]
   clear hdec
   go_loopw [7] (fun r wr=>∃j:Nat,j≤8∧r=.int .i64 j∧wr.heap[w.heap.size]? =some (.cells (Iv .u32 (uN (bK l k) j)) 177)∧wr.heap[w.heap.size+1]? =some (.cells (Iv .u32 (rQ 16 0)) 177)∧Below w.heap.size w wr) (fun r _=>8 - (intOf r).toNat)
   case atStart=>exact⟨0,by omega,rfl,hg,hg1,hbel⟩
   case round=>
    obtain⟨j,hj,rfl,hgj,hg1j,hbelj⟩:=hrel
    clear hg hg1 hbel
    by_cases hltj:j<8
    ·obtain⟨t0,t1,t2,t3⟩:=ht j hltj
     have c0:=(hbelj.cell (p:=⟨2,j*4,none⟩) (wJ _ _ t0)).trans t0
     have c1:=(hbelj.cell (p:=⟨2,j*4+1,none⟩) (wJ _ _ t1)).trans t1
     have c2:=(hbelj.cell (p:=⟨2,j*4+2,none⟩) (wJ _ _ t2)).trans t2
     have c3:=(hbelj.cell (p:=⟨2,j*4+3,none⟩) (wJ _ _ t3)).trans t3
     obtain⟨l0,l1,l2,l3⟩:=aa3 j hltj
     have HL:Hid (uN (bK l k) (j+1)=iC (uN (bK l k) j) (q0 j) (q1 j) (q2 j) (q3 j)):=rfl
     have hLl:(uN (bK l k) j).length=16:=by rw[qW,gH,hl]
     have hLa:bF (uN (bK l k) j):=DF (pZ h k) j
     have hsz:w.heap.size+1<wr.heap.size:=(Array.getElem?_eq_some_iff.1 hg1j).1
     generalize uN (bK l k) j=L at*
     have w0:=hLa (q0 j)
     have w1:=hLa (q1 j)
     have w2:=hLa (q2 j)
     have w3:=hLa (q3 j)
     have r0:wr.cell? ⟨w.heap.size,q0 j,none⟩=some (.int .u32 (L.getD (q0 j) 0)):=by rw[cell_of_row _ _ _ _ _ _ hgj,cN _ _ _ (by omega)];simp[show q0 j<L.length by omega]
     have r1:wr.cell? ⟨w.heap.size,q1 j,none⟩=some (.int .u32 (L.getD (q1 j) 0)):=by rw[cell_of_row _ _ _ _ _ _ hgj,cN _ _ _ (by omega)];simp[show q1 j<L.length by omega]
     have r2:wr.cell? ⟨w.heap.size,q2 j,none⟩=some (.int .u32 (L.getD (q2 j) 0)):=by rw[cell_of_row _ _ _ _ _ _ hgj,cN _ _ _ (by omega)];simp[show q2 j<L.length by omega]
     have r3:wr.cell? ⟨w.heap.size,q3 j,none⟩=some (.int .u32 (L.getD (q3 j) 0)):=by rw[cell_of_row _ _ _ _ _ _ hgj,cN _ _ _ (by omega)];simp[show q3 j<L.length by omega]
     have HM:Hid (iC L (q0 j) (q1 j) (q2 j) (q3 j)=(((L.set (q0 j) (qA (L.getD (q0 j) 0) (L.getD (q1 j) 0) (L.getD (q2 j) 0) (L.getD (q3 j) 0))).set (q1 j) (qB (L.getD (q0 j) 0) (L.getD (q1 j) 0) (L.getD (q2 j) 0) (L.getD (q3 j) 0))).set (q2 j) (qC (L.getD (q0 j) 0) (L.getD (q1 j) 0) (L.getD (q2 j) 0) (L.getD (q3 j) 0))).set (q3 j) (qD (L.getD (q0 j) 0) (L.getD (q1 j) 0) (L.getD (q2 j) 0) (L.getD (q3 j) 0))):=rfl
     obtain⟨b0,b1,b1',b2,b2',b3,b3'⟩:=aa2 j hltj
     have n01:¬q0 j=q1 j:=by omega
     have n02:¬q0 j=q2 j:=by omega
     have n03:¬q0 j=q3 j:=by omega
     have n12:¬q1 j=q2 j:=by omega
     have n13:¬q1 j=q3 j:=by omega
     have n23:¬q2 j=q3 j:=by omega
     have m01:¬q1 j=q0 j:=by omega
     have m02:¬q2 j=q0 j:=by omega
     have m03:¬q3 j=q0 j:=by omega
     have m12:¬q2 j=q1 j:=by omega
     have m13:¬q3 j=q1 j:=by omega
     have m23:¬q3 j=q2 j:=by omega
     have f0:wr.frozen? ⟨w.heap.size,q0 j,none⟩=false:=frozen_of_row _ _ _ _ _ hgj
     have f1:wr.frozen? ⟨w.heap.size,q1 j,none⟩=false:=frozen_of_row _ _ _ _ _ hgj
     have f2:wr.frozen? ⟨w.heap.size,q2 j,none⟩=false:=frozen_of_row _ _ _ _ _ hgj
     have f3:wr.frozen? ⟨w.heap.size,q3 j,none⟩=false:=frozen_of_row _ _ _ _ _ hgj
     clear b0 b1 b1' b2 b2' b3 b3'
     have e0:Hid ((Iv .u32 L)[q0 j]? =some (.int .u32 (L.getD (q0 j) 0))):=by show _=_;rw[cN _ _ _ (by omega)];simp[show q0 j<L.length by omega]
     have e1:Hid ((Iv .u32 L)[q1 j]? =some (.int .u32 (L.getD (q1 j) 0))):=by show _=_;rw[cN _ _ _ (by omega)];simp[show q1 j<L.length by omega]
     have e2:Hid ((Iv .u32 L)[q2 j]? =some (.int .u32 (L.getD (q2 j) 0))):=by show _=_;rw[cN _ _ _ (by omega)];simp[show q2 j<L.length by omega]
     have e3:Hid ((Iv .u32 L)[q3 j]? =some (.int .u32 (L.getD (q3 j) 0))):=by show _=_;rw[cN _ _ _ (by omega)];simp[show q3 j<L.length by omega]
     generalize q0 j=p0 at*
     generalize q1 j=p1 at*
     generalize q2 j=p2 at*
     generalize q3 j=p3 at*
     generalize L.getD p0 0=x0 at*
     generalize L.getD p1 0=x1 at*
     generalize L.getD p2 0=x2 at*
     generalize L.getD p3 0=x3 at*
     clear t0 t1 t2 t3 hLa ht
     have hne:w.heap.size<wr.heap.size:=by omega
     have hT:wr.heap[w.heap.size+1]? =some (.cells (Iv .u32 (rQ 16 0)) 177):=hg1j
     go_wp2
     have pc0:(wr.alloc (.cells #[.int .u8 p0,.int .u8 p1,.int .u8 p2,.int .u8 p3] 231)).cell? ⟨wr.heap.size,0,none⟩=some (.int .u8 p0):=by simp
     have pc1:(wr.alloc (.cells #[.int .u8 p0,.int .u8 p1,.int .u8 p2,.int .u8 p3] 231)).cell? ⟨wr.heap.size,1,none⟩=some (.int .u8 p1):=by simp
     have pc2:(wr.alloc (.cells #[.int .u8 p0,.int .u8 p1,.int .u8 p2,.int .u8 p3] 231)).cell? ⟨wr.heap.size,2,none⟩=some (.int .u8 p2):=by simp
     have pc3:(wr.alloc (.cells #[.int .u8 p0,.int .u8 p1,.int .u8 p2,.int .u8 p3] 231)).cell? ⟨wr.heap.size,3,none⟩=some (.int .u8 p3):=by simp
     have hgW:(wr.alloc (.cells #[.int .u8 p0,.int .u8 p1,.int .u8 p2,.int .u8 p3] 231)).heap[w.heap.size]? =some (.cells (Iv .u32 L) 177):=by rw[hAO _ _ hne];exact hgj
     have hgT:(wr.alloc (.cells #[.int .u8 p0,.int .u8 p1,.int .u8 p2,.int .u8 p3] 231)).heap[w.heap.size+1]? =some (.cells (Iv .u32 (rQ 16 0)) 177):=by rw[hAO _ _ hsz];exact hT
     have hbW:Below w.heap.size w (wr.alloc (.cells #[.int .u8 p0,.int .u8 p1,.int .u8 p2,.int .u8 p3] 231)):=hbelj.alloc hbelj.size _
     clear r0 r1 r2 r3 f0 f1 f2 f3 hgj hg1j hbelj hT c0 c1 c2 c3
     generalize wr.alloc (.cells #[.int .u8 p0,.int .u8 p1,.int .u8 p2,.int .u8 p3] 231)=W0 at*
     generalize wr.heap.size=pb at*
     have r0:W0.cell? ⟨w.heap.size,p0,none⟩=some (.int .u32 x0):=by rw[cell_of_row _ _ _ _ _ _ hgW];exact e0.out
     have r1:W0.cell? ⟨w.heap.size,p1,none⟩=some (.int .u32 x1):=by rw[cell_of_row _ _ _ _ _ _ hgW];exact e1.out
     have r2:W0.cell? ⟨w.heap.size,p2,none⟩=some (.int .u32 x2):=by rw[cell_of_row _ _ _ _ _ _ hgW];exact e2.out
     have r3:W0.cell? ⟨w.heap.size,p3,none⟩=some (.int .u32 x3):=by rw[cell_of_row _ _ _ _ _ _ hgW];exact e3.out
     have f0:W0.frozen? ⟨w.heap.size,p0,none⟩=false:=frozen_of_row _ _ _ _ _ hgW
     have f1:W0.frozen? ⟨w.heap.size,p1,none⟩=false:=frozen_of_row _ _ _ _ _ hgW
     have f2:W0.frozen? ⟨w.heap.size,p2,none⟩=false:=frozen_of_row _ _ _ _ _ hgW
     have f3:W0.frozen? ⟨w.heap.size,p3,none⟩=false:=frozen_of_row _ _ _ _ _ hgW
     have S0:Hid (∃cs,W0.drew=W0.drew.setRow w.heap.size cs):=⟨_,(iD W0.drew w.heap.size (Iv .u32 L) 177 (0,0) hgW).symm⟩
     have pq0:∀cs,(W0.drew.setRow w.heap.size cs).cell? ⟨pb,0,none⟩=some (.int .u8 p0):=fun cs=>by rw[aZ _ _ _ _ (by show pb≠_;omega)];exact pc0
     have pq1:∀cs,(W0.drew.setRow w.heap.size cs).cell? ⟨pb,1,none⟩=some (.int .u8 p1):=fun cs=>by rw[aZ _ _ _ _ (by show pb≠_;omega)];exact pc1
     have pq2:∀cs,(W0.drew.setRow w.heap.size cs).cell? ⟨pb,2,none⟩=some (.int .u8 p2):=fun cs=>by rw[aZ _ _ _ _ (by show pb≠_;omega)];exact pc2
     have pq3:∀cs,(W0.drew.setRow w.heap.size cs).cell? ⟨pb,3,none⟩=some (.int .u8 p3):=fun cs=>by rw[aZ _ _ _ _ (by show pb≠_;omega)];exact pc3
     refine wRl 31 (fun w'=>∃cs,w'=W0.drew.setRow w.heap.size cs)
      [(.held,[0,1,2,3,4,5,6,7]),(.exact,[8,9,10,11,12,13,14,15,16,17,18,19,20,21,22,23]),(.only,[24]),(.held,[25,26,27,28,29,30]),(.tail,[31]),(.held,[32]),(.tail,[33]),(.held,[34]),(.tail,[35]),(.held,[36]),(.tail,[37])] FF (by kernel_rfl)
      S0.out ?_
     simp only[iQ,oS]
     repeat(go_big_quiet_step (fail))
     refine wqN ?_
     repeat(go_big_quiet_step (fail))
     refine wqN ?_
     go_wp2_with fail
     refine(NW _ _ _ _ _ w0 w1 w2 w3).mono ?_
     rintro e W1 ⟨rfl,rfl⟩
     go_wp2_with fail
     refine⟨rfl,?_⟩
     repeat(go_big_quiet_step (fail))
     refine wqN ?_
     go_wp2_with fail
     refine⟨jB S0.out,?_⟩
     repeat(go_big_quiet_step (fail))
     refine wqN ?_
     go_wp2_with fail
     refine⟨jB (jB S0.out),?_⟩
     repeat(go_big_quiet_step (fail))
     refine wqN ?_
     go_wp2_with fail
     refine⟨jB (jB (jB S0.out)),?_⟩
     repeat(go_big_quiet_step (fail))
     refine wqN ?_
     go_wp2_with fail
     refine⟨jB (jB (jB (jB S0.out))),dI ?_⟩
     go_wp2
     go_roundw
     case rel=>
      have hw1:=setCell_eq_setRow W0 w.heap.size p0 (Iv .u32 L) 177 (0,0) (.int .u32 (qA x0 x1 x2 x3)) hgW
      refine⟨j+1,by omega,by go_num,?_,?_,?_⟩
      ·rw[HL.out,HM.out,hw1,aL,aL,aL,bN,bN,bN,bN]
       exact setRow_heap _ _ _ _ _ _ hgW
      ·rw[hw1,aL,aL,aL]
       exact(cG _ _ _ _ (by omega)).trans hgT
      ·rw[hw1,aL,aL,aL]
       exact bDr (aM hbW _ (nQ _) _) 1
     case measure=>simp[intOf];omega
    ·obtain rfl:j=8:=by omega
     go_wp2
     go_roundw
     case rel=>exact⟨k+1,by omega,by go_num,hgj,hg1j,hbelj⟩
     case measure=>simp[intOf];omega
  ·obtain rfl:k=10:=by omega
   have hL:(bK l 10).length=16:=by rw[gH,hl]
   go_wp2_with(first|refine wpLr rfl 177 _ rfl _ rfl _ _ _ _ hg underlying177 rfl (by rw[aD,hL];exact yZ) ?_ |refine wpList_store_row rfl 177 _ _ rfl _ (Iv .u32 (bK l 10)) rfl rfl _ _ hg1 (by rw[aD,hL];exact yZ) (by simp[aD,hL]) (aG _ _) ?_)
   refine oT (cs:=Iv .u32 (bK l 10)) results149 ?_ (setRow_heap _ _ _ _ _ _ hg1) underlying177 (by rw[aD,hL];exact yZ) ?_
   ·rfl
   ·exact⟨rfl,aM hbel _ (by omega) _⟩
set_option maxHeartbeats 1000000 in
theorem KF (key rest:List Int) (w:World) (hk:key.length=32) (hr:rest.length=16) (hkb:aE key) (hrb:aE rest):
 Calls prog 148 #[.agg (Iv .u8 key),.agg (Iv .u8 rest)] w fun e w'=>e=.returned (.agg (Iv .u32 (i5 key rest)))∧Below w.heap.size w w':=by
 go_enter func148,ntmps148
 go_wp2_with fail
 obtain⟨W,hW,h0,h1,h2,h3,hs,hb⟩:=qZ w (.cells (Iv .u8 key) 22) (.cells (Iv .u8 rest) 27) (.cells (Iv .u32 (rQ 16 0)) 177) (.cells (Iv .u32 kM) 177)
 have hW':=hW
 simp only[Iv,kM,rQ,List.map_cons,List.map_nil]at hW'
 simp only[Iv,hW']
 clear hW hW'
 have H0:aC W w.heap.size .u8 key 22:=h0
 have H1:aC W (w.heap.size+1) .u8 rest 27:=h1
 have H2:aC W (w.heap.size+1+1) .u32 (rQ 16 0) 177:=h2
 have H3:aC W (w.heap.size+1+1+1) .u32 kM 177:=h3
 clear h0 h1 h2 h3
 refine wRh 2 FF (by kernel_rfl) ?_
 simp only[tU,tJ,dJ,dY]
 repeat(go_big_quiet_step (fail))
 refine wqN ?_
 go_wp2_with fail
 refine(iY 32 (w.heap.size+1+1+1) 4 8 12 177 kM w.heap.size 0 32 key W.drew hk H3 (by decide) (by decide) (by omega) hkb (by decide) (by decide) (by intro i hi;rw[Nat.zero_add];exact H0.cell i (by omega)) (by decide) (by decide)).mono ?_
 rintro e w1 ⟨rfl,d,hw1⟩
 have K1:aC w1 (w.heap.size+1) .u8 rest 27:=by rw[hw1];exact aC.far (w:=W.drew) H1 _ _ (by omega) d
 have K2:aC w1 (w.heap.size+1+1) .u32 (rQ 16 0) 177:=by rw[hw1];exact aC.far (w:=W.drew) H2 _ _ (by omega) d
 have K3:aC w1 (w.heap.size+1+1+1) .u32 (pF9 kM 4 (aF key) 8) 177:=by rw[hw1];exact aC.put (w:=W.drew) H3 _ d
 have hb1:Below w.heap.size w w1:=by rw[hw1];exact bDr (aM (bDr hb 1) _ (by omega) _) d
 clear hw1 H0 H1 H2 H3 hb
 go_wp2_with fail
 refine wRh 2 FF (by kernel_rfl) ?_
 simp only[tU,tJ,dJ,dY]
 repeat(go_big_quiet_step (fail))
 refine wqN ?_
 go_wp2_with fail
 refine(iY 16 (w.heap.size+1+1+1) 12 4 4 177 (pF9 kM 4 (aF key) 8) (w.heap.size+1) 0 16 rest w1.drew hr K3 (by rw[aP _ _ _ _ (by decide)];decide) (by decide) (by omega) hrb (by decide) (by decide) (by intro i hi;rw[Nat.zero_add];exact K1.cell i (by omega)) (by decide) (by decide)).mono ?_
 rintro e w2 ⟨rfl,d2,hw2⟩
 have L2:aC w2 (w.heap.size+1+1) .u32 (rQ 16 0) 177:=by rw[hw2];exact aC.far (w:=w1.drew) K2 _ _ (by omega) d2
 have L3:aC w2 (w.heap.size+1+1+1) .u32 (i5 key rest) 177:=by rw[hw2];exact aC.put (w:=w1.drew) K3 _ d2
 have hb2:Below w.heap.size w w2:=by rw[hw2];exact bDr (aM (bDr hb1 1) _ (by omega) _) d2
 clear hw2 K1 K2 K3 hb1
 have hi:(prog.info? 177).map (·.size)=some (Iv .u32 (i5 key rest)).size:=by rw[aD];exact yZ
 go_wp2_with(first|refine wpLr rfl 177 _ rfl _ rfl _ _ _ _ L3 underlying177 rfl hi ?_ |refine wpList_store_row rfl 177 _ _ rfl _ (Iv .u32 (i5 key rest)) rfl rfl _ _ L2 hi (by rw[aD,aD];rfl) (aG _ _) ?_)
 refine oT (cs:=Iv .u32 (i5 key rest)) results148 ?_ (setRow_heap _ _ _ _ _ _ L2) underlying177 hi ?_
 ·rfl
 ·exact⟨rfl,aM hb2 _ (by omega) _⟩
end Go.Proofs.YtgcepckaolkeoaaGreatDoor
