import Derived.Test.YtgcepckaolkeoaaGreatDoorMY06
namespace Go.Proofs.YtgcepckaolkeoaaGreatDoor
open Go.RowKit
open Go.Proofs.Tryz
open Go renaming heap_alloc_new → hAN, heap_alloc_old → hAO, wpQuiet_nil → wqN
open Go.World renaming block_lt_of_cell? → wJ
open List renaming drop_succ_cons → dJ, drop_zero → dY, length_append → lQ, length_map → lU, nil_append → nA, not_mem_nil → nY, replicate → rQ, set_cons_zero → sY, take_succ_cons → tU, take_succ_eq_append_getElem → tQ, take_zero → tJ
open Nat renaming le_refl → nQ
set_option linter.unusedVariables false
def qS (L:List Int) (v:Int) (k:Nat):List Int:=(L.take k).map (fun z=>SX z v)++L.drop k
theorem JX (L:List Int) (v:Int):qS L v 0=L:=by simp[qS]
theorem BQ (L:List Int) (v:Int) (k:Nat):(qS L v k).length=L.length:=by simp[qS];omega
theorem SW (L:List Int) (v:Int) (k:Nat):(qS L v k).getD k 0=L.getD k 0:=by
 unfold qS
 simp only[List.getD_eq_getElem?_getD,List.getElem?_append,lU,List.length_take]
 by_cases h:k<L.length
 ·rw[if_neg (by omega),List.getElem?_drop]
  congr 2
  omega
 ·rw[List.getElem?_eq_none (show L.length≤k by omega)]
  split
  ·rw[List.getElem?_eq_none (by simp;omega)]
  ·rw[List.getElem?_eq_none (by simp;omega)]
theorem JW (L:List Int) (v:Int) (k:Nat) (h:k<L.length):(qS L v k).set k (SX (L.getD k 0) v)=qS L v (k+1):=by
 unfold qS
 rw[List.set_append,if_neg (by simp;omega),lU,List.length_take,show k - min k L.length=0 by omega,tQ h,List.map_append,List.append_assoc]
 congr 1
 rw[List.drop_eq_getElem_cons h,sY]
 simp only[List.getD_eq_getElem?_getD,List.getElem?_eq_getElem h,Option.getD_some,List.map_cons,List.map_nil,List.singleton_append]
theorem Y9 (K:List Int) (v:Int) (kx:Nat) (hK:K.length=kx) (hk:kx≤64):qS (K++rQ (64 - kx) 0) v 64=gP K v 64:=by
 unfold qS gP
 rw[List.take_of_length_le (by simp;omega),List.drop_eq_nil_of_le (by simp;omega),List.append_nil]
 apply List.ext_getElem?
 intro i
 simp only[List.getElem?_map,List.getElem?_append,List.getElem?_replicate,List.getD_eq_getElem?_getD,hK]
 by_cases h1:i<kx
 ·rw[if_pos h1,List.getElem?_range (by omega),List.getElem?_eq_getElem (by omega)]
  simp only[Option.map_some,List.getElem?_eq_getElem (show i<K.length by omega),Option.getD_some]
 ·rw[if_neg h1]
  by_cases h2:i<64
  ·rw[if_pos (by omega),List.getElem?_range h2]
   simp only[Option.map_some,List.getElem?_eq_none (show K.length≤i by omega),Option.getD_none]
  ·rw[if_neg (by omega),List.getElem?_eq_none (by simp;omega)]
   rfl
theorem OH (n:Nat):aE (rQ n 0):=fun i=>by simp[List.getD_eq_getElem?_getD,List.getElem?_replicate];split<;>simp
theorem dZ.row1 {w:World} {g:Nat} {v:Value} {P:List Int} {t:TypeId} (hg:w.heap[g]? =some (.cells #[v] t)) (h:eF w v P):dZ w g 0 1 [v] [P]:=by
 refine⟨rfl,rfl,by decide,fun _=>(Array.getElem?_eq_some_iff.1 hg).1,fun i hi=>?_,fun i hi hi'=>?_⟩
 ·obtain rfl:i=0:=by simpa using hi
  rw[cell_of_row _ _ _ _ _ _ hg]
  rfl
 ·obtain rfl:i=0:=by simpa using hi
  exact h
def TX:Oper:={ dst:=some 37,op:=Op.call { callee:=Callee.value (Operand.func 105),args:=#[Operand.const (Value.int IntKind.i64 32),Operand.const (Value.slice none 0 0)],argTypes:=#[3,48] },type:=184,pos:= "l1_hash.go:202",after:=#[],guard:=none }
def TY:Oper:={ dst:=some 38,op:=Op.slice 147 (Operand.tmp 5) none none none,type:=48,pos:= "l1_hash.go:202",after:=#[],guard:=none }
def PN:Oper:={ dst:=some 39,op:=Op.buildSlice 152 1 #[(0,Operand.tmp 38)],type:=152,pos:= "l1_hash.go:202",after:=#[{ on:=1,ground:=Ground.data }],guard:=none }
def MN:Oper:={ dst:=some 40,op:=Op.call { callee:=Callee.value (Operand.func 106),args:=#[Operand.tmp 37,Operand.tmp 39],argTypes:=#[184,152] },type:=184,pos:= "l1_hash.go:202",after:=#[{ on:=0,ground:=Ground.data },{ on:=2,ground:=Ground.data },{ on:=0,ground:=Ground.chain }],guard:=none }
def TZ:Oper:={ dst:=some 41,op:=Op.move (Operand.tmp 1),type:=152,pos:= "l1_hash.go:202",after:=#[],guard:=none }
def MP:Oper:={ dst:=some 42,op:=Op.call { callee:=Callee.value (Operand.func 106),args:=#[Operand.tmp 40,Operand.tmp 41],argTypes:=#[184,152] },type:=184,pos:= "l1_hash.go:202",after:=#[{ on:=3,ground:=Ground.data },{ on:=4,ground:=Ground.data },{ on:=3,ground:=Ground.chain }],guard:=none }
def PO:Oper:={ dst:=some 43,op:=Op.call { callee:=Callee.value (Operand.func 107),args:=#[Operand.tmp 42],argTypes:=#[184] },type:=22,pos:= "l1_hash.go:202",after:=#[{ on:=5,ground:=Ground.data },{ on:=5,ground:=Ground.chain }],guard:=none }
def T4:Oper:={ dst:=some 9,op:=Op.alloc 22,type:=0,pos:= "l1_hash.go:202",after:=#[],guard:=none }
def wK:Oper:={ dst:=none,op:=Op.store 22 (Operand.tmp 9) (Operand.tmp 43),type:=0,pos:= "l1_hash.go:202",after:=#[{ on:=7,ground:=Ground.data },{ on:=6,ground:=Ground.data },{ on:=6,ground:=Ground.chain },{ on:=0,ground:=Ground.phase },{ on:=1,ground:=Ground.phase },{ on:=2,ground:=Ground.phase },{ on:=3,ground:=Ground.phase },{ on:=4,ground:=Ground.phase },{ on:=5,ground:=Ground.phase },{ on:=6,ground:=Ground.phase },{ on:=7,ground:=Ground.phase }],guard:=none }
def i6:Array Oper:=#[TX,TY,PN,MN,TZ,MP,PO,T4,wK]
def rY (c0 c7 c8 c10 c11 c12 c13 c14 c15 c16 c17 c18 c19 c20 c21 c22 c25 c26 c27 c28 c29 c30 c31 c32 c33 c34 c35 c36:Value) (pb po np pcap b:Nat) (h0 I F B:List Int) (y9 y37 y38 y39 y40 y41 y42 y43:Value):Act:={ tmps:=#[c0,.slice (some ⟨pb,po,none⟩) np pcap,undef,undef,.pointer (some ⟨b,0,none⟩),.pointer (some ⟨b+1,0,none⟩),.pointer (some ⟨b+1+1,0,none⟩),c7,c8,y9,c10,c11,c12,c13,c14,c15,c16,c17,c18,c19,c20,c21,c22,.int .i64 ((64:Nat):Int),.bool false,c25,c26,c27,c28,c29,c30,c31,c32,c33,c34,c35,c36,y37,y38,y39,y40,y41,y42,y43,undef,undef,undef,undef],defers:=[] }
structure GQ (c0 c7 c8 c10 c11 c12 c13 c14 c15 c16 c17 c18 c19 c20 c21 c22 c25 c26 c27 c28 c29 c30 c31 c32 c33 c34 c35 c36:Value) (pb po np pcap b:Nat) (h0 I F B:List Int) (W:World) (listed:Array Bool) (w:World) (y9 y37 y38 y39 y40 y41 y42 y43:Value):Prop where
 size:listed.size=9
 bel:Below W.heap.size W w
 p0:oK listed 0=true→y37=.agg (dD h0 0 (aA 64) 0)
 p1:oK listed 1=true→y38=.slice (some ⟨b+1,0,none⟩) 64 64
 p2:oK listed 2=true→oK listed 8=true∨∃g,y39=.slice (some ⟨g,0,none⟩) 1 1∧W.heap.size≤g∧w.heap[g]? =some (.cells #[.slice (some ⟨b+1,0,none⟩) 64 64] 48)
 p3:oK listed 3=true→∃(k t fn:Nat) (h b:List Int),y40=.agg (dD h t b fn)∧t=64*k∧qO h0 I k fn h b∧(0<fn∨k=0)
 p4:oK listed 4=true→y41=.slice (some ⟨pb,po,none⟩) np pcap
 p5:oK listed 5=true→∃(k t fn:Nat) (h b:List Int),y42=.agg (dD h t b fn)∧t=64*k∧qO h0 (I++F) k fn h b∧(0<fn∨k=0)
 p6:oK listed 6=true→y43=.agg (Iv .u8 B)
 p8:oK listed 8=true→∀j,j<9→oK listed j=true
 p7:oK listed 7=true→∃g,y9=.pointer (some ⟨g,0,none⟩)∧W.heap.size≤g∧w.heap[g]? =some (.cells (Iv .u8 (if oK listed 8 then B else(aA 32))) 22)
def wT (c0 c7 c8 c10 c11 c12 c13 c14 c15 c16 c17 c18 c19 c20 c21 c22 c25 c26 c27 c28 c29 c30 c31 c32 c33 c34 c35 c36:Value) (pb po np pcap b:Nat) (h0 I F B:List Int) (W:World) (listed:Array Bool) (a:Act) (w:World):Prop:=∃y9 y37 y38 y39 y40 y41 y42 y43,a=rY c0 c7 c8 c10 c11 c12 c13 c14 c15 c16 c17 c18 c19 c20 c21 c22 c25 c26 c27 c28 c29 c30 c31 c32 c33 c34 c35 c36 pb po np pcap b h0 I F B y9 y37 y38 y39 y40 y41 y42 y43∧GQ c0 c7 c8 c10 c11 c12 c13 c14 c15 c16 c17 c18 c19 c20 c21 c22 c25 c26 c27 c28 c29 c30 c31 c32 c33 c34 c35 c36 pb po np pcap b h0 I F B W listed w y9 y37 y38 y39 y40 y41 y42 y43
theorem oY {listed:Array Bool} (hs:listed.size=9) (hr:Region.ready .any i6 listed=[]) {i:Nat} (o:Oper) (ho:i6[i]? =some o) (hi:i<9) (hdep:∀e∈o.after,oK listed e.on=true):oK listed i=true:=by
 cases hb:oK listed i with
 | true=>rfl
 | false=>
   have h1:listed.getD i true=false:=by
    have hlt:i<listed.size:=by omega
    simp only[oK,Array.getD,hlt,dif_pos]at hb⊢
    exact hb
   have:i∈Region.ready .any i6 listed:=mem_ready.2 ⟨h1,o,ho,fun e he _=>hdep e he⟩
   rw[hr]at this
   cases this
theorem aeM {listed:Array Bool} (hs:listed.size=9) (hr:Region.ready .any i6 listed=[]):oK listed 0=true∧oK listed 1=true∧oK listed 2=true∧oK listed 3=true∧oK listed 4=true∧oK listed 5=true∧oK listed 6=true∧oK listed 7=true∧oK listed 8=true:=by
 have l0:=oY hs hr (i:=0) TX rfl (by omega) (by unfold TX;simp only[List.mem_toArray,nY,false_implies,implies_true])
 have l1:=oY hs hr (i:=1) TY rfl (by omega) (by unfold TY;simp only[List.mem_toArray,nY,false_implies,implies_true])
 have l2:=oY hs hr (i:=2) PN rfl (by omega) (by unfold PN;simp only[List.mem_toArray,List.mem_cons,nY,or_false,forall_eq,l1])
 have l3:=oY hs hr (i:=3) MN rfl (by omega) (by unfold MN;simp only[List.mem_toArray,List.mem_cons,nY,or_false,forall_eq_or_imp,forall_eq,l0,l2,and_self])
 have l4:=oY hs hr (i:=4) TZ rfl (by omega) (by unfold TZ;simp only[List.mem_toArray,nY,false_implies,implies_true])
 have l5:=oY hs hr (i:=5) MP rfl (by omega) (by unfold MP;simp only[List.mem_toArray,List.mem_cons,nY,or_false,forall_eq_or_imp,forall_eq,l3,l4,and_self])
 have l6:=oY hs hr (i:=6) PO rfl (by omega) (by unfold PO;simp only[List.mem_toArray,List.mem_cons,nY,or_false,forall_eq_or_imp,forall_eq,l5,and_self])
 have l7:=oY hs hr (i:=7) T4 rfl (by omega) (by unfold T4;simp only[List.mem_toArray,nY,false_implies,implies_true])
 have l8:=oY hs hr (i:=8) wK rfl (by omega) (by unfold wK;simp only[List.mem_toArray,List.mem_cons,nY,or_false,forall_eq_or_imp,forall_eq,l0,l1,l2,l3,l4,l5,l6,l7,and_self])
 exact⟨l0,l1,l2,l3,l4,l5,l6,l7,l8⟩
theorem yU {listed:Array Bool} {i:Nat} (h:i∈Region.ready .any i6 listed) (o:Oper) (ho:i6[i]? =some o):listed.getD i true=false∧∀e∈o.after,Region.binds .any e=true→oK listed e.on=true:=by
 obtain⟨h1,o',ho',hd⟩:=mem_ready.1 h
 rw[ho]at ho'
 cases ho'
 exact⟨h1,hd⟩
set_option maxRecDepth 10000 in
set_option maxHeartbeats 2000000 in
theorem af3 {c0 c7 c8 c10 c11 c12 c13 c14 c15 c16 c17 c18 c19 c20 c21 c22 c25 c26 c27 c28 c29 c30 c31 c32 c33 c34 c35 c36:Value} {pb po np pcap b:Nat} {h0 I F B:List Int} {W:World} {listed:Array Bool} {w:World} {y9 y37 y38 y39 y40 y41 y42 y43:Value} {Q:Exit→Act→World→Prop} (h:GQ c0 c7 c8 c10 c11 c12 c13 c14 c15 c16 c17 c18 c19 c20 c21 c22 c25 c26 c27 c28 c29 c30 c31 c32 c33 c34 c35 c36 pb po np pcap b h0 I F B W listed w y9 y37 y38 y39 y40 y41 y42 y43) (hi:0∈Region.ready .any i6 listed) (hcon:∀w,Below W.heap.size W w→Calls prog 105 #[.int .i64 32,.slice none 0 0] w fun e w'=>e=.returned (.agg (dD h0 0 (aA 64) 0))∧Below w.heap.size w w'):
 wpList prog i6 (cJ (wT c0 c7 c8 c10 c11 c12 c13 c14 c15 c16 c17 c18 c19 c20 c21 c22 c25 c26 c27 c28 c29 c30 c31 c32 c33 c34 c35 c36 pb po np pcap b h0 I F B W (listed.setIfInBounds 0 true)) Q) [TX] (rY c0 c7 c8 c10 c11 c12 c13 c14 c15 c16 c17 c18 c19 c20 c21 c22 c25 c26 c27 c28 c29 c30 c31 c32 c33 c34 c35 c36 pb po np pcap b h0 I F B y9 y37 y38 y39 y40 y41 y42 y43) w:=by
 obtain⟨hn1,hdep⟩:=yU hi TX rfl
 obtain⟨hlt,hno⟩:=oV hn1
 have HC:Hid _:=hcon w  h.bel 
 have HH:Hid _:=h
 clear h hdep hn1 hcon
 unfold rY TX
 go_wp2_with fail
 refine Calls.mono HC.out ?_
 rintro e w' ⟨rfl,hb⟩
 go_wp2_with fail
 have h:=HH.out
 refine⟨_,_,_,_,_,_,_,_,rfl,{
  size:=by simpa using h.size
  bel:=h.bel.trans (hb.mono h.bel.size)
  p0:=fun _=>rfl
  p1:=fun hl=>h.p1 (by rwa[aN (by omega)]at hl)
  p2:=fun hl=>(h.p2 (by rwa[aN (by omega)]at hl)).imp (fun e=>by rw[aN (by omega)];exact e) (fun o=>by obtain⟨g,e1,e2,e3⟩:=o;exact⟨g,e1,e2,(hb.block g (Array.getElem?_eq_some_iff.1 e3).1).trans e3⟩)
  p3:=fun hl=>h.p3 (by rwa[aN (by omega)]at hl)
  p4:=fun hl=>h.p4 (by rwa[aN (by omega)]at hl)
  p5:=fun hl=>h.p5 (by rwa[aN (by omega)]at hl)
  p6:=fun hl=>h.p6 (by rwa[aN (by omega)]at hl)
  p8:=fun hl=>absurd (h.p8 (by rwa[aN (by omega)]at hl) 0 (by omega)) (by rw[hno];simp)
  p7:=fun hl=>by
   obtain⟨g,e1,e2,e3⟩:=h.p7 (by rwa[aN (by omega)]at hl)
   refine⟨g,e1,e2,?_⟩
   rw[aN (by omega),hb.block g (Array.getElem?_eq_some_iff.1 e3).1]
   exact e3 }⟩
set_option maxRecDepth 10000 in
set_option maxHeartbeats 2000000 in
theorem af4 {c0 c7 c8 c10 c11 c12 c13 c14 c15 c16 c17 c18 c19 c20 c21 c22 c25 c26 c27 c28 c29 c30 c31 c32 c33 c34 c35 c36:Value} {pb po np pcap b:Nat} {h0 I F B:List Int} {W:World} {listed:Array Bool} {w:World} {y9 y37 y38 y39 y40 y41 y42 y43:Value} {Q:Exit→Act→World→Prop} (h:GQ c0 c7 c8 c10 c11 c12 c13 c14 c15 c16 c17 c18 c19 c20 c21 c22 c25 c26 c27 c28 c29 c30 c31 c32 c33 c34 c35 c36 pb po np pcap b h0 I F B W listed w y9 y37 y38 y39 y40 y41 y42 y43) (hi:1∈Region.ready .any i6 listed):
 wpList prog i6 (cJ (wT c0 c7 c8 c10 c11 c12 c13 c14 c15 c16 c17 c18 c19 c20 c21 c22 c25 c26 c27 c28 c29 c30 c31 c32 c33 c34 c35 c36 pb po np pcap b h0 I F B W (listed.setIfInBounds 1 true)) Q) [TY] (rY c0 c7 c8 c10 c11 c12 c13 c14 c15 c16 c17 c18 c19 c20 c21 c22 c25 c26 c27 c28 c29 c30 c31 c32 c33 c34 c35 c36 pb po np pcap b h0 I F B y9 y37 y38 y39 y40 y41 y42 y43) w:=by
 obtain⟨hn1,hdep⟩:=yU hi TY rfl
 obtain⟨hlt,hno⟩:=oV hn1
 have HH:Hid _:=h
 clear h hdep hn1
 unfold rY TY
 go_wp2_with fail
 have h:=HH.out
 have hb:=Below.refl w.heap.size w
 refine⟨_,_,_,_,_,_,_,_,rfl,{
  size:=by simpa using h.size
  bel:=h.bel.trans (hb.mono h.bel.size)
  p0:=fun hl=>h.p0 (by rwa[aN (by omega)]at hl)
  p1:=fun _=>rfl
  p2:=fun hl=>(h.p2 (by rwa[aN (by omega)]at hl)).imp (fun e=>by rw[aN (by omega)];exact e) (fun o=>by obtain⟨g,e1,e2,e3⟩:=o;exact⟨g,e1,e2,(hb.block g (Array.getElem?_eq_some_iff.1 e3).1).trans e3⟩)
  p3:=fun hl=>h.p3 (by rwa[aN (by omega)]at hl)
  p4:=fun hl=>h.p4 (by rwa[aN (by omega)]at hl)
  p5:=fun hl=>h.p5 (by rwa[aN (by omega)]at hl)
  p6:=fun hl=>h.p6 (by rwa[aN (by omega)]at hl)
  p8:=fun hl=>absurd (h.p8 (by rwa[aN (by omega)]at hl) 1 (by omega)) (by rw[hno];simp)
  p7:=fun hl=>by
   obtain⟨g,e1,e2,e3⟩:=h.p7 (by rwa[aN (by omega)]at hl)
   refine⟨g,e1,e2,?_⟩
   rw[aN (by omega),hb.block g (Array.getElem?_eq_some_iff.1 e3).1]
   exact e3 }⟩
set_option maxRecDepth 10000 in
set_option maxHeartbeats 2000000 in
theorem af5 {c0 c7 c8 c10 c11 c12 c13 c14 c15 c16 c17 c18 c19 c20 c21 c22 c25 c26 c27 c28 c29 c30 c31 c32 c33 c34 c35 c36:Value} {pb po np pcap b:Nat} {h0 I F B:List Int} {W:World} {listed:Array Bool} {w:World} {y9 y37 y38 y39 y40 y41 y42 y43:Value} {Q:Exit→Act→World→Prop} (h:GQ c0 c7 c8 c10 c11 c12 c13 c14 c15 c16 c17 c18 c19 c20 c21 c22 c25 c26 c27 c28 c29 c30 c31 c32 c33 c34 c35 c36 pb po np pcap b h0 I F B W listed w y9 y37 y38 y39 y40 y41 y42 y43) (hi:2∈Region.ready .any i6 listed):
 wpList prog i6 (cJ (wT c0 c7 c8 c10 c11 c12 c13 c14 c15 c16 c17 c18 c19 c20 c21 c22 c25 c26 c27 c28 c29 c30 c31 c32 c33 c34 c35 c36 pb po np pcap b h0 I F B W (listed.setIfInBounds 2 true)) Q) [PN] (rY c0 c7 c8 c10 c11 c12 c13 c14 c15 c16 c17 c18 c19 c20 c21 c22 c25 c26 c27 c28 c29 c30 c31 c32 c33 c34 c35 c36 pb po np pcap b h0 I F B y9 y37 y38 y39 y40 y41 y42 y43) w:=by
 obtain⟨hn1,hdep⟩:=yU hi PN rfl
 obtain⟨hlt,hno⟩:=oV hn1
 have l1:oK listed 1=true:=hdep { on:=1,ground:=Ground.data } (by unfold PN;simp) rfl
 obtain rfl:=h.p1 l1
 have HH:Hid _:=h
 clear h hdep hn1
 unfold rY PN
 go_wp2_with fail
 have h:=HH.out
 have hb:Below w.heap.size w (w.alloc (.cells #[.slice (some ⟨b+1,0,none⟩) 64 64] 48)):=(Below.refl _ _).alloc (nQ _) _
 refine⟨_,_,_,_,_,_,_,_,rfl,{
  size:=by simpa using h.size
  bel:=h.bel.trans (hb.mono h.bel.size)
  p0:=fun hl=>h.p0 (by rwa[aN (by omega)]at hl)
  p1:=fun hl=>h.p1 (by rwa[aN (by omega)]at hl)
  p2:=fun _=>.inr ⟨w.heap.size,rfl,h.bel.size,hAN _ _⟩
  p3:=fun hl=>h.p3 (by rwa[aN (by omega)]at hl)
  p4:=fun hl=>h.p4 (by rwa[aN (by omega)]at hl)
  p5:=fun hl=>h.p5 (by rwa[aN (by omega)]at hl)
  p6:=fun hl=>h.p6 (by rwa[aN (by omega)]at hl)
  p8:=fun hl=>absurd (h.p8 (by rwa[aN (by omega)]at hl) 2 (by omega)) (by rw[hno];simp)
  p7:=fun hl=>by
   obtain⟨g,e1,e2,e3⟩:=h.p7 (by rwa[aN (by omega)]at hl)
   refine⟨g,e1,e2,?_⟩
   rw[aN (by omega),hb.block g (Array.getElem?_eq_some_iff.1 e3).1]
   exact e3 }⟩
set_option maxRecDepth 10000 in
set_option maxHeartbeats 2000000 in
theorem af6 {c0 c7 c8 c10 c11 c12 c13 c14 c15 c16 c17 c18 c19 c20 c21 c22 c25 c26 c27 c28 c29 c30 c31 c32 c33 c34 c35 c36:Value} {pb po np pcap b:Nat} {h0 I F B:List Int} {W:World} {listed:Array Bool} {w:World} {y9 y37 y38 y39 y40 y41 y42 y43:Value} {Q:Exit→Act→World→Prop} (h:GQ c0 c7 c8 c10 c11 c12 c13 c14 c15 c16 c17 c18 c19 c20 c21 c22 c25 c26 c27 c28 c29 c30 c31 c32 c33 c34 c35 c36 pb po np pcap b h0 I F B W listed w y9 y37 y38 y39 y40 y41 y42 y43) (hi:3∈Region.ready .any i6 listed) (hcon:∀w y39,Below W.heap.size W w→(∃g,y39=.slice (some ⟨g,0,none⟩) 1 1∧W.heap.size≤g∧w.heap[g]? =some (.cells #[.slice (some ⟨b+1,0,none⟩) 64 64] 48))→Calls prog 106 #[.agg (dD h0 0 (aA 64) 0),y39] w fun e w'=>∃v,e=.returned v∧(∃(k t fn:Nat) (h b:List Int),v=.agg (dD h t b fn)∧t=64*k∧qO h0 I k fn h b∧(0<fn∨k=0))∧Below w.heap.size w w'):
 wpList prog i6 (cJ (wT c0 c7 c8 c10 c11 c12 c13 c14 c15 c16 c17 c18 c19 c20 c21 c22 c25 c26 c27 c28 c29 c30 c31 c32 c33 c34 c35 c36 pb po np pcap b h0 I F B W (listed.setIfInBounds 3 true)) Q) [MN] (rY c0 c7 c8 c10 c11 c12 c13 c14 c15 c16 c17 c18 c19 c20 c21 c22 c25 c26 c27 c28 c29 c30 c31 c32 c33 c34 c35 c36 pb po np pcap b h0 I F B y9 y37 y38 y39 y40 y41 y42 y43) w:=by
 obtain⟨hn1,hdep⟩:=yU hi MN rfl
 obtain⟨hlt,hno⟩:=oV hn1
 have l0:oK listed 0=true:=hdep { on:=0,ground:=Ground.data } (by unfold MN;simp) rfl
 obtain rfl:=h.p0 l0
 have l2:oK listed 2=true:=hdep { on:=2,ground:=Ground.data } (by unfold MN;simp) rfl
 have o2:=(h.p2 l2).resolve_left (fun e=>absurd (h.p8 e 3 (by omega)) (by rw[hno];simp))
 have HC:Hid _:=hcon w _ h.bel o2
 have HH:Hid _:=h
 clear h hdep hn1 hcon
 unfold rY MN
 go_wp2_with fail
 refine Calls.mono HC.out ?_
 rintro e w' ⟨v,rfl,ho,hb⟩
 go_wp2_with fail
 have h:=HH.out
 refine⟨_,_,_,_,_,_,_,_,rfl,{
  size:=by simpa using h.size
  bel:=h.bel.trans (hb.mono h.bel.size)
  p0:=fun hl=>h.p0 (by rwa[aN (by omega)]at hl)
  p1:=fun hl=>h.p1 (by rwa[aN (by omega)]at hl)
  p2:=fun hl=>(h.p2 (by rwa[aN (by omega)]at hl)).imp (fun e=>by rw[aN (by omega)];exact e) (fun o=>by obtain⟨g,e1,e2,e3⟩:=o;exact⟨g,e1,e2,(hb.block g (Array.getElem?_eq_some_iff.1 e3).1).trans e3⟩)
  p3:=fun _=>ho
  p4:=fun hl=>h.p4 (by rwa[aN (by omega)]at hl)
  p5:=fun hl=>h.p5 (by rwa[aN (by omega)]at hl)
  p6:=fun hl=>h.p6 (by rwa[aN (by omega)]at hl)
  p8:=fun hl=>absurd (h.p8 (by rwa[aN (by omega)]at hl) 3 (by omega)) (by rw[hno];simp)
  p7:=fun hl=>by
   obtain⟨g,e1,e2,e3⟩:=h.p7 (by rwa[aN (by omega)]at hl)
   refine⟨g,e1,e2,?_⟩
   rw[aN (by omega),hb.block g (Array.getElem?_eq_some_iff.1 e3).1]
   exact e3 }⟩
set_option maxRecDepth 10000 in
set_option maxHeartbeats 2000000 in
theorem af7 {c0 c7 c8 c10 c11 c12 c13 c14 c15 c16 c17 c18 c19 c20 c21 c22 c25 c26 c27 c28 c29 c30 c31 c32 c33 c34 c35 c36:Value} {pb po np pcap b:Nat} {h0 I F B:List Int} {W:World} {listed:Array Bool} {w:World} {y9 y37 y38 y39 y40 y41 y42 y43:Value} {Q:Exit→Act→World→Prop} (h:GQ c0 c7 c8 c10 c11 c12 c13 c14 c15 c16 c17 c18 c19 c20 c21 c22 c25 c26 c27 c28 c29 c30 c31 c32 c33 c34 c35 c36 pb po np pcap b h0 I F B W listed w y9 y37 y38 y39 y40 y41 y42 y43) (hi:4∈Region.ready .any i6 listed):
 wpList prog i6 (cJ (wT c0 c7 c8 c10 c11 c12 c13 c14 c15 c16 c17 c18 c19 c20 c21 c22 c25 c26 c27 c28 c29 c30 c31 c32 c33 c34 c35 c36 pb po np pcap b h0 I F B W (listed.setIfInBounds 4 true)) Q) [TZ] (rY c0 c7 c8 c10 c11 c12 c13 c14 c15 c16 c17 c18 c19 c20 c21 c22 c25 c26 c27 c28 c29 c30 c31 c32 c33 c34 c35 c36 pb po np pcap b h0 I F B y9 y37 y38 y39 y40 y41 y42 y43) w:=by
 obtain⟨hn1,hdep⟩:=yU hi TZ rfl
 obtain⟨hlt,hno⟩:=oV hn1
 have HH:Hid _:=h
 clear h hdep hn1
 unfold rY TZ
 go_wp2_with fail
 have h:=HH.out
 have hb:=Below.refl w.heap.size w
 refine⟨_,_,_,_,_,_,_,_,rfl,{
  size:=by simpa using h.size
  bel:=h.bel.trans (hb.mono h.bel.size)
  p0:=fun hl=>h.p0 (by rwa[aN (by omega)]at hl)
  p1:=fun hl=>h.p1 (by rwa[aN (by omega)]at hl)
  p2:=fun hl=>(h.p2 (by rwa[aN (by omega)]at hl)).imp (fun e=>by rw[aN (by omega)];exact e) (fun o=>by obtain⟨g,e1,e2,e3⟩:=o;exact⟨g,e1,e2,(hb.block g (Array.getElem?_eq_some_iff.1 e3).1).trans e3⟩)
  p3:=fun hl=>h.p3 (by rwa[aN (by omega)]at hl)
  p4:=fun _=>rfl
  p5:=fun hl=>h.p5 (by rwa[aN (by omega)]at hl)
  p6:=fun hl=>h.p6 (by rwa[aN (by omega)]at hl)
  p8:=fun hl=>absurd (h.p8 (by rwa[aN (by omega)]at hl) 4 (by omega)) (by rw[hno];simp)
  p7:=fun hl=>by
   obtain⟨g,e1,e2,e3⟩:=h.p7 (by rwa[aN (by omega)]at hl)
   refine⟨g,e1,e2,?_⟩
   rw[aN (by omega),hb.block g (Array.getElem?_eq_some_iff.1 e3).1]
   exact e3 }⟩
set_option maxRecDepth 10000 in
set_option maxHeartbeats 2000000 in
theorem af8 {c0 c7 c8 c10 c11 c12 c13 c14 c15 c16 c17 c18 c19 c20 c21 c22 c25 c26 c27 c28 c29 c30 c31 c32 c33 c34 c35 c36:Value} {pb po np pcap b:Nat} {h0 I F B:List Int} {W:World} {listed:Array Bool} {w:World} {y9 y37 y38 y39 y40 y41 y42 y43:Value} {Q:Exit→Act→World→Prop} (h:GQ c0 c7 c8 c10 c11 c12 c13 c14 c15 c16 c17 c18 c19 c20 c21 c22 c25 c26 c27 c28 c29 c30 c31 c32 c33 c34 c35 c36 pb po np pcap b h0 I F B W listed w y9 y37 y38 y39 y40 y41 y42 y43) (hi:5∈Region.ready .any i6 listed) (hcon:∀w y40,Below W.heap.size W w→(∃(k t fn:Nat) (h b:List Int),y40=.agg (dD h t b fn)∧t=64*k∧qO h0 I k fn h b∧(0<fn∨k=0))→Calls prog 106 #[y40,.slice (some ⟨pb,po,none⟩) np pcap] w fun e w'=>∃v,e=.returned v∧(∃(k t fn:Nat) (h b:List Int),v=.agg (dD h t b fn)∧t=64*k∧qO h0 (I++F) k fn h b∧(0<fn∨k=0))∧Below w.heap.size w w'):
 wpList prog i6 (cJ (wT c0 c7 c8 c10 c11 c12 c13 c14 c15 c16 c17 c18 c19 c20 c21 c22 c25 c26 c27 c28 c29 c30 c31 c32 c33 c34 c35 c36 pb po np pcap b h0 I F B W (listed.setIfInBounds 5 true)) Q) [MP] (rY c0 c7 c8 c10 c11 c12 c13 c14 c15 c16 c17 c18 c19 c20 c21 c22 c25 c26 c27 c28 c29 c30 c31 c32 c33 c34 c35 c36 pb po np pcap b h0 I F B y9 y37 y38 y39 y40 y41 y42 y43) w:=by
 obtain⟨hn1,hdep⟩:=yU hi MP rfl
 obtain⟨hlt,hno⟩:=oV hn1
 have l3:oK listed 3=true:=hdep { on:=3,ground:=Ground.data } (by unfold MP;simp) rfl
 have o3:=h.p3 l3
 have l4:oK listed 4=true:=hdep { on:=4,ground:=Ground.data } (by unfold MP;simp) rfl
 obtain rfl:=h.p4 l4
 have HC:Hid _:=hcon w _ h.bel o3
 have HH:Hid _:=h
 clear h hdep hn1 hcon
 unfold rY MP
 go_wp2_with fail
 refine Calls.mono HC.out ?_
 rintro e w' ⟨v,rfl,ho,hb⟩
 go_wp2_with fail
 have h:=HH.out
 refine⟨_,_,_,_,_,_,_,_,rfl,{
  size:=by simpa using h.size
  bel:=h.bel.trans (hb.mono h.bel.size)
  p0:=fun hl=>h.p0 (by rwa[aN (by omega)]at hl)
  p1:=fun hl=>h.p1 (by rwa[aN (by omega)]at hl)
  p2:=fun hl=>(h.p2 (by rwa[aN (by omega)]at hl)).imp (fun e=>by rw[aN (by omega)];exact e) (fun o=>by obtain⟨g,e1,e2,e3⟩:=o;exact⟨g,e1,e2,(hb.block g (Array.getElem?_eq_some_iff.1 e3).1).trans e3⟩)
  p3:=fun hl=>h.p3 (by rwa[aN (by omega)]at hl)
  p4:=fun hl=>h.p4 (by rwa[aN (by omega)]at hl)
  p5:=fun _=>ho
  p6:=fun hl=>h.p6 (by rwa[aN (by omega)]at hl)
  p8:=fun hl=>absurd (h.p8 (by rwa[aN (by omega)]at hl) 5 (by omega)) (by rw[hno];simp)
  p7:=fun hl=>by
   obtain⟨g,e1,e2,e3⟩:=h.p7 (by rwa[aN (by omega)]at hl)
   refine⟨g,e1,e2,?_⟩
   rw[aN (by omega),hb.block g (Array.getElem?_eq_some_iff.1 e3).1]
   exact e3 }⟩
set_option maxRecDepth 10000 in
set_option maxHeartbeats 2000000 in
theorem af9 {c0 c7 c8 c10 c11 c12 c13 c14 c15 c16 c17 c18 c19 c20 c21 c22 c25 c26 c27 c28 c29 c30 c31 c32 c33 c34 c35 c36:Value} {pb po np pcap b:Nat} {h0 I F B:List Int} {W:World} {listed:Array Bool} {w:World} {y9 y37 y38 y39 y40 y41 y42 y43:Value} {Q:Exit→Act→World→Prop} (h:GQ c0 c7 c8 c10 c11 c12 c13 c14 c15 c16 c17 c18 c19 c20 c21 c22 c25 c26 c27 c28 c29 c30 c31 c32 c33 c34 c35 c36 pb po np pcap b h0 I F B W listed w y9 y37 y38 y39 y40 y41 y42 y43) (hi:6∈Region.ready .any i6 listed) (hcon:∀w y42,Below W.heap.size W w→(∃(k t fn:Nat) (h b:List Int),y42=.agg (dD h t b fn)∧t=64*k∧qO h0 (I++F) k fn h b∧(0<fn∨k=0))→Calls prog 107 #[y42] w fun e w'=>e=.returned (.agg (Iv .u8 B))∧Below w.heap.size w w'):
 wpList prog i6 (cJ (wT c0 c7 c8 c10 c11 c12 c13 c14 c15 c16 c17 c18 c19 c20 c21 c22 c25 c26 c27 c28 c29 c30 c31 c32 c33 c34 c35 c36 pb po np pcap b h0 I F B W (listed.setIfInBounds 6 true)) Q) [PO] (rY c0 c7 c8 c10 c11 c12 c13 c14 c15 c16 c17 c18 c19 c20 c21 c22 c25 c26 c27 c28 c29 c30 c31 c32 c33 c34 c35 c36 pb po np pcap b h0 I F B y9 y37 y38 y39 y40 y41 y42 y43) w:=by
 obtain⟨hn1,hdep⟩:=yU hi PO rfl
 obtain⟨hlt,hno⟩:=oV hn1
 have l5:oK listed 5=true:=hdep { on:=5,ground:=Ground.data } (by unfold PO;simp) rfl
 have o5:=h.p5 l5
 have HC:Hid _:=hcon w _ h.bel o5
 have HH:Hid _:=h
 clear h hdep hn1 hcon
 unfold rY PO
 go_wp2_with fail
 refine Calls.mono HC.out ?_
 rintro e w' ⟨rfl,hb⟩
 go_wp2_with fail
 have h:=HH.out
 refine⟨_,_,_,_,_,_,_,_,rfl,{
  size:=by simpa using h.size
  bel:=h.bel.trans (hb.mono h.bel.size)
  p0:=fun hl=>h.p0 (by rwa[aN (by omega)]at hl)
  p1:=fun hl=>h.p1 (by rwa[aN (by omega)]at hl)
  p2:=fun hl=>(h.p2 (by rwa[aN (by omega)]at hl)).imp (fun e=>by rw[aN (by omega)];exact e) (fun o=>by obtain⟨g,e1,e2,e3⟩:=o;exact⟨g,e1,e2,(hb.block g (Array.getElem?_eq_some_iff.1 e3).1).trans e3⟩)
  p3:=fun hl=>h.p3 (by rwa[aN (by omega)]at hl)
  p4:=fun hl=>h.p4 (by rwa[aN (by omega)]at hl)
  p5:=fun hl=>h.p5 (by rwa[aN (by omega)]at hl)
  p6:=fun _=>rfl
  p8:=fun hl=>absurd (h.p8 (by rwa[aN (by omega)]at hl) 6 (by omega)) (by rw[hno];simp)
  p7:=fun hl=>by
   obtain⟨g,e1,e2,e3⟩:=h.p7 (by rwa[aN (by omega)]at hl)
   refine⟨g,e1,e2,?_⟩
   rw[aN (by omega),hb.block g (Array.getElem?_eq_some_iff.1 e3).1]
   exact e3 }⟩
set_option maxRecDepth 10000 in
set_option maxHeartbeats 2000000 in
theorem agA {c0 c7 c8 c10 c11 c12 c13 c14 c15 c16 c17 c18 c19 c20 c21 c22 c25 c26 c27 c28 c29 c30 c31 c32 c33 c34 c35 c36:Value} {pb po np pcap b:Nat} {h0 I F B:List Int} {W:World} {listed:Array Bool} {w:World} {y9 y37 y38 y39 y40 y41 y42 y43:Value} {Q:Exit→Act→World→Prop} (h:GQ c0 c7 c8 c10 c11 c12 c13 c14 c15 c16 c17 c18 c19 c20 c21 c22 c25 c26 c27 c28 c29 c30 c31 c32 c33 c34 c35 c36 pb po np pcap b h0 I F B W listed w y9 y37 y38 y39 y40 y41 y42 y43) (hi:7∈Region.ready .any i6 listed) (hzv:∀W,(zeroValue 22).run prog W=.ok (.agg (Iv .u8 (aA 32))) W):
 wpList prog i6 (cJ (wT c0 c7 c8 c10 c11 c12 c13 c14 c15 c16 c17 c18 c19 c20 c21 c22 c25 c26 c27 c28 c29 c30 c31 c32 c33 c34 c35 c36 pb po np pcap b h0 I F B W (listed.setIfInBounds 7 true)) Q) [T4] (rY c0 c7 c8 c10 c11 c12 c13 c14 c15 c16 c17 c18 c19 c20 c21 c22 c25 c26 c27 c28 c29 c30 c31 c32 c33 c34 c35 c36 pb po np pcap b h0 I F B y9 y37 y38 y39 y40 y41 y42 y43) w:=by
 obtain⟨hn1,hdep⟩:=yU hi T4 rfl
 obtain⟨hlt,hno⟩:=oV hn1
 have hnos:oK listed 8=false:=by
  cases h8:oK listed 8 with
  | false=>rfl
  | true=>exact absurd (h.p8 h8 7 (by omega)) (by rw[hno];simp)
 have HH:Hid _:=h
 clear h hdep hn1
 unfold rY T4
 go_wp2_with fail
 have h:=HH.out
 have hb:Below w.heap.size w (w.alloc (.cells (Iv .u8 (aA 32)) 22)):=(Below.refl _ _).alloc (nQ _) _
 refine⟨_,_,_,_,_,_,_,_,rfl,{
  size:=by simpa using h.size
  bel:=h.bel.trans (hb.mono h.bel.size)
  p0:=fun hl=>h.p0 (by rwa[aN (by omega)]at hl)
  p1:=fun hl=>h.p1 (by rwa[aN (by omega)]at hl)
  p2:=fun hl=>(h.p2 (by rwa[aN (by omega)]at hl)).imp (fun e=>by rw[aN (by omega)];exact e) (fun o=>by obtain⟨g,e1,e2,e3⟩:=o;exact⟨g,e1,e2,(hb.block g (Array.getElem?_eq_some_iff.1 e3).1).trans e3⟩)
  p3:=fun hl=>h.p3 (by rwa[aN (by omega)]at hl)
  p4:=fun hl=>h.p4 (by rwa[aN (by omega)]at hl)
  p5:=fun hl=>h.p5 (by rwa[aN (by omega)]at hl)
  p6:=fun hl=>h.p6 (by rwa[aN (by omega)]at hl)
  p8:=fun hl=>absurd (h.p8 (by rwa[aN (by omega)]at hl) 7 (by omega)) (by rw[hno];simp)
  p7:=fun _=>by
   refine⟨w.heap.size,rfl,h.bel.size,?_⟩
   rw[aN (by omega),hnos]
   exact hAN _ _ }⟩
set_option maxRecDepth 10000 in
set_option maxHeartbeats 2000000 in
theorem agB {c0 c7 c8 c10 c11 c12 c13 c14 c15 c16 c17 c18 c19 c20 c21 c22 c25 c26 c27 c28 c29 c30 c31 c32 c33 c34 c35 c36:Value} {pb po np pcap b:Nat} {h0 I F B:List Int} {W:World} {listed:Array Bool} {w:World} {y9 y37 y38 y39 y40 y41 y42 y43:Value} {Q:Exit→Act→World→Prop} (h:GQ c0 c7 c8 c10 c11 c12 c13 c14 c15 c16 c17 c18 c19 c20 c21 c22 c25 c26 c27 c28 c29 c30 c31 c32 c33 c34 c35 c36 pb po np pcap b h0 I F B W listed w y9 y37 y38 y39 y40 y41 y42 y43) (hi:8∈Region.ready .any i6 listed) (hinf:(prog.info? 22).map (·.size)=some (Iv .u8 B).size) (hzs:(Iv .u8 (aA 32)).size=(Iv .u8 B).size):
 wpList prog i6 (cJ (wT c0 c7 c8 c10 c11 c12 c13 c14 c15 c16 c17 c18 c19 c20 c21 c22 c25 c26 c27 c28 c29 c30 c31 c32 c33 c34 c35 c36 pb po np pcap b h0 I F B W (listed.setIfInBounds 8 true)) Q) [wK] (rY c0 c7 c8 c10 c11 c12 c13 c14 c15 c16 c17 c18 c19 c20 c21 c22 c25 c26 c27 c28 c29 c30 c31 c32 c33 c34 c35 c36 pb po np pcap b h0 I F B y9 y37 y38 y39 y40 y41 y42 y43) w:=by
 obtain⟨hn1,hdep⟩:=yU hi wK rfl
 obtain⟨hlt,hno⟩:=oV hn1
 have hd0:oK listed 0=true:=hdep { on:=0,ground:=Ground.phase } (by unfold wK;simp) rfl
 have hd1:oK listed 1=true:=hdep { on:=1,ground:=Ground.phase } (by unfold wK;simp) rfl
 have hd2:oK listed 2=true:=hdep { on:=2,ground:=Ground.phase } (by unfold wK;simp) rfl
 have hd3:oK listed 3=true:=hdep { on:=3,ground:=Ground.phase } (by unfold wK;simp) rfl
 have hd4:oK listed 4=true:=hdep { on:=4,ground:=Ground.phase } (by unfold wK;simp) rfl
 have hd5:oK listed 5=true:=hdep { on:=5,ground:=Ground.phase } (by unfold wK;simp) rfl
 have hd6:oK listed 6=true:=hdep { on:=6,ground:=Ground.phase } (by unfold wK;simp) rfl
 have hd7:oK listed 7=true:=hdep { on:=7,ground:=Ground.phase } (by unfold wK;simp) rfl
 have l6:oK listed 6=true:=hdep { on:=6,ground:=Ground.data } (by unfold wK;simp) rfl
 obtain rfl:=h.p6 l6
 have la:oK listed 7=true:=hdep { on:=7,ground:=Ground.data } (by unfold wK;simp) rfl
 obtain⟨g,rfl,hg,hrow⟩:=h.p7 la
 rw[hno,if_neg (by simp)]at hrow
 have HR:Hid _:=hrow
 have hik:Hid _:=hinf
 have hiz:Hid _:=hzs
 have HH:Hid _:=h
 clear h hdep hn1 hrow hinf hzs
 unfold rY wK
 refine wpPr rfl 22 (.tmp 9) (.tmp 43) rfl g (Iv .u8 B) rfl rfl _ _ HR.out hik.out hiz.out (aG _ _) ?_
 intro w' hP
 simp only[Act.put]
 go_wp2_with fail
 have h:=HH.out
 refine⟨_,_,_,_,_,_,_,_,rfl,{
  size:=by simpa using h.size
  bel:=hP.below _ _ h.bel hg
  p0:=fun hl=>h.p0 (by rwa[aN (by omega)]at hl)
  p1:=fun hl=>h.p1 (by rwa[aN (by omega)]at hl)
  p2:=fun _=>.inl (DM hlt)
  p3:=fun hl=>h.p3 (by rwa[aN (by omega)]at hl)
  p4:=fun hl=>h.p4 (by rwa[aN (by omega)]at hl)
  p5:=fun hl=>h.p5 (by rwa[aN (by omega)]at hl)
  p6:=fun hl=>h.p6 (by rwa[aN (by omega)]at hl)
  p8:=fun _ j hj=>by
   match j,hj with
   | 0,_=>rw[aN (by omega)];exact hd0
   | 1,_=>rw[aN (by omega)];exact hd1
   | 2,_=>rw[aN (by omega)];exact hd2
   | 3,_=>rw[aN (by omega)];exact hd3
   | 4,_=>rw[aN (by omega)];exact hd4
   | 5,_=>rw[aN (by omega)];exact hd5
   | 6,_=>rw[aN (by omega)];exact hd6
   | 7,_=>rw[aN (by omega)];exact hd7
   | 8,_=>exact DM hlt
  p7:=fun _=>by
   refine⟨g,rfl,hg,?_⟩
   rw[DM hlt,if_pos rfl]
   exact hP.here }⟩
set_option maxRecDepth 10000 in
set_option maxHeartbeats 2000000 in
theorem sX (K:List Int) (kl:Nat) (hbig:¬64<kl) (hK:K.length=kl) (hKb:aE K) (hkl:kl≤5000000) (kb ko kcap:Nat) (hkcap:kl≤kcap) (hkcap2:kcap≤9223372036854775807) (Ps:List (List Int)) (vs:List Value) (np pcap pb po:Nat) (w:World) (hkc:∀j,j<kl→w.cell? ⟨kb,ko+j,none⟩=some (.int .u8 (K.getD j 0))) (hkbs:kb<w.heap.size) (hp:dZ w pb po np vs Ps) (hlen:Ps.flatten.length≤100000000000) (ht:dR w) (Bo:List Int) (HBO:Hid (∀x,gF K Ps.flatten=x→x=Bo)):
 Calls prog 109 #[.slice (some ⟨kb,ko,none⟩) kl kcap,.slice (some ⟨pb,po,none⟩) np pcap] w fun e w'=>e=.returned (.agg (Iv .u8 Bo))∧Below w.heap.size w w':=by
 have hzb:=fT
 have hz64:=SY
 have hBo:Bo.length=32:=by rw[←HBO.out _ rfl];exact lT _ _
 have HKC:Hid _:=hkc
 have HP:Hid _:=hp
 have HT:Hid _:=ht
 clear hkc hp ht
 obtain⟨W,hW,g0,g1,g2,hs,hB⟩:=oF w (.cells (Iv .u8 (aA 32)) 22) (.cells (Iv .u8 (aA 64)) 147) (.cells (Iv .u8 (aA 64)) 147)
 have G0:Hid _:=g0
 have G1:Hid _:=g1
 have G2:Hid _:=g2
 have HB:Hid _:=hB
 clear g0 g1 g2 hB
 go_enter func109,ntmps109
 ·have hb1:(64<kl)=False:=by simp;omega
  have hsh:AE K=K:=by unfold AE;rw[if_neg (by omega)]
  have HFIN:Hid (∀x,dM (gP K 92 64++dM (gP K 54 64++Ps.flatten))=x→x=Bo):=fun x hx=>HBO.out x (by unfold gF;rw[hsh];exact hx)
  clear hsh
  have hkx:kl≤64:=by omega
  have I1:W.heap[w.heap.size+1]? =some (.cells (Iv .u8 (aA 64)) 147):=G1.out
  have I2:W.heap[w.heap.size+1+1]? =some (.cells (Iv .u8 (aA 64)) 147):=G2.out
  have GRA:W.heap[w.heap.size]? =some (.cells (Iv .u8 (aA 32)) 22):=G0.out
  have BAA:Below w.heap.size w W:=HB.out
  have dD:w.heap.size+1+1<W.heap.size:=by omega
  have HKX:Hid (∀j,j<kl→W.cell? ⟨kb,ko+j,none⟩=some (.int .u8 (K.getD j 0))):=fun j hj=>(BAA.cell (p:=⟨kb,ko+j,none⟩) (wJ _ _ (HKC.out j hj))).trans (HKC.out j hj)
  have HKNE:Hid (kb≠w.heap.size+1∧kb≠w.heap.size+1+1):=⟨by omega,by omega⟩
  clear G0 G1 G2 HB HKC
  have HI1:Hid _:=I1
  have HI2:Hid _:=I2
  have HGR:Hid _:=GRA
  have HBA:Hid _:=BAA
  clear I1 I2 GRA BAA
  have HMINK:Hid (kl=Nat.min kl 64):=by show kl=min kl 64;omega
  have HNEW:Hid ((aA 64).take 0++(K++(aA 64).drop (0+kl))=K++rQ (64 - kl) 0):=by
   show _=_
   unfold aA
   rw[tJ,nA,Nat.zero_add,List.drop_replicate]
  go_wp2_with(refine ME .u8 rfl (.tmp 17) (.tmp 18) 48 48 rfl 5 underlying48 KM (w.heap.size+1) 0 64 64 kb ko kl kcap rfl rfl (aA 64) K (K++rQ (64 - kl) 0) kl 147 HI1.out hK HMINK.out HKX.out (by simp[aA]<;>omega) HNEW.out ?_)
  intro wB hPB
  have J1:Hid (wB.heap[w.heap.size+1]? =some (.cells (Iv .u8 (K++rQ (64 - kl) 0)) 147)):=hPB.here
  have J2:Hid (wB.heap[w.heap.size+1+1]? =some (.cells (Iv .u8 (aA 64)) 147)):=(hPB.far _ (by omega)).trans HI2.out
  have JR:Hid (wB.heap[w.heap.size]? =some (.cells (Iv .u8 (aA 32)) 22)):=(hPB.far _ (by omega)).trans HGR.out
  have JB:Hid (Below w.heap.size w wB):=hPB.below _ _ HBA.out (by omega)
  have HKX':Hid (∀j,j<kl→wB.cell? ⟨kb,ko+j,none⟩=some (.int .u8 (K.getD j 0))):=fun j hj=>by
   have e1:=hPB.far kb HKNE.out.1
   rw[←HKX.out j hj]
   unfold World.cell?
   rw[e1]
  have hsB:w.heap.size+1+1<wB.heap.size:=by rw[hPB.size];exact dD
  clear hPB HI1 HI2 HGR HBA HKX
  go_wp2_with(refine ME .u8 rfl (.tmp 20) (.tmp 21) 48 48 rfl 5 underlying48 KM (w.heap.size+1+1) 0 64 64 kb ko kl kcap rfl rfl (aA 64) K (K++rQ (64 - kl) 0) kl 147 J2.out hK HMINK.out HKX'.out (by simp[aA]<;>omega) HNEW.out ?_)
  intro wC hPC
  have M1:Hid (wC.heap[w.heap.size+1]? =some (.cells (Iv .u8 (K++rQ (64 - kl) 0)) 147)):=(hPC.far _ (by omega)).trans J1.out
  have M2:Hid (wC.heap[w.heap.size+1+1]? =some (.cells (Iv .u8 (K++rQ (64 - kl) 0)) 147)):=hPC.here
  have MR:Hid (wC.heap[w.heap.size]? =some (.cells (Iv .u8 (aA 32)) 22)):=(hPC.far _ (by omega)).trans JR.out
  have MB:Hid (Below w.heap.size w wC):=hPC.below _ _ JB.out (by omega)
  have hsC:w.heap.size+1+1<wC.heap.size:=by rw[hPC.size];exact hsB
  clear hPC J1 J2 JR JB HKX' HNEW HMINK hsB dD
  have hKp:(K++rQ (64 - kl) 0).length=64:=by simp[hK]<;>omega
  have HXP:Hid (∀v,qS (K++rQ (64 - kl) 0) v 64=gP K v 64):=fun v=>Y9 K v kl hK (by omega)
  have hKpb:Hid (aE (K++rQ (64 - kl) 0)):=aY hKb (OH _)
  generalize K++rQ (64 - kl) 0=KP at*
  go_wp2_with fail
  go_loopw [23] (fun i wr=>∃k:Nat,k≤64∧i=.int .i64 k∧wr.heap[w.heap.size+1]? =some (.cells (Iv .u8 (qS KP 54 k)) 147)∧wr.heap[w.heap.size+1+1]? =some (.cells (Iv .u8 (qS KP 92 k)) 147)∧wr.heap[w.heap.size]? =some (.cells (Iv .u8 (aA 32)) 22)∧Below w.heap.size w wr) (fun i _=>64 - (intOf i).toNat)
  case atStart=>exact⟨0,by omega,rfl,by rw[JX];exact M1.out,by rw[JX];exact M2.out,MR.out,MB.out⟩
  case round=>
   obtain⟨k,hk,rfl,P1,P2,PR,PB⟩:=hrel
   clear M1 M2 MR MB hsC
   by_cases hlt:k<64
   ·have HS1:Hid ((qS KP 54 k).set k (SX (KP.getD k 0) 54)=qS KP 54 (k+1)):=JW KP 54 k (by omega)
    have HS2:Hid ((qS KP 92 k).set k (SX (KP.getD k 0) 92)=qS KP 92 (k+1)):=JW KP 92 k (by omega)
    have c1:wr.cell? ⟨w.heap.size+1,k,none⟩=some (.int .u8 (KP.getD k 0)):=by rw[←SW KP 54 k];exact aC.cell (show aC wr _ .u8 (qS KP 54 k) _ from P1) k (by rw[BQ];omega)
    have c2:wr.cell? ⟨w.heap.size+1+1,k,none⟩=some (.int .u8 (KP.getD k 0)):=by rw[←SW KP 92 k];exact aC.cell (show aC wr _ .u8 (qS KP 92 k) _ from P2) k (by rw[BQ];omega)
    have f1:wr.frozen? ⟨w.heap.size+1,k,none⟩=false:=frozen_of_row _ _ _ _ _ P1
    have f2:wr.frozen? ⟨w.heap.size+1+1,k,none⟩=false:=frozen_of_row _ _ _ _ _ P2
    generalize KP.getD k 0=z at*
    generalize qS KP 54 k=L1 at*
    generalize qS KP 92 k=L2 at*
    have hki:(k:Int)<64:=by omega
    have N1:Hid _:=P1
    have N2:Hid _:=P2
    have NR:Hid _:=PR
    have NB:Hid _:=PB
    clear P1 P2 PR PB
    go_wp2
    go_roundw
    case rel=>
     refine⟨k+1,by omega,by go_num,?_,?_,?_,?_⟩
     ·rw[←HS1.out]
      exact aC.setFar (aC.setCell (show aC wr _ .u8 L1 _ from N1.out) k (SX z 54)) _ _ (by simp)
     ·rw[←HS2.out]
      exact aC.setCell (aC.setFar (show aC wr _ .u8 L2 _ from N2.out) _ _ (by simp)) k (SX z 92)
     ·exact(heap_setCell_other _ _ _ _ (by show _≠_;simp only;omega)).trans ((heap_setCell_other _ _ _ _ (by show _≠_;simp only;omega)).trans NR.out)
     ·exact(NB.out.setCell (by simp) _).setCell (by simp;omega) _
    case measure=>simp[intOf];omega
   ·obtain rfl:k=64:=by omega
    rw[HXP.out 54]at P1
    rw[HXP.out 92]at P2
    have N1:Hid _:=P1
    have N2:Hid _:=P2
    have NR:Hid _:=PR
    have NB:Hid _:=PB
    clear P1 P2 PR PB HXP hKp hKpb
    go_wp2_with fail
    have hBW:Below wr.heap.size wr wr:=Below.refl _ _
    obtain⟨h0,hh0d⟩:∃x,iT 32 0=x:=⟨_,rfl⟩
    have hh0:h0.length=8:=by rw[←hh0d];exact nF _ _
    have h032:Hid (bF h0):=by show bF h0;rw[←hh0d];exact vM _ _
    obtain⟨Bi,hBid⟩:∃x,dM (gP K 54 64++Ps.flatten)=x:=⟨_,rfl⟩
    have hBil:Bi.length=32:=by rw[←hBid];exact bV _
    have HBIB:Hid (aE Bi):=by show aE Bi;rw[←hBid];exact dK _
    have HBID:Hid (q7 h0 (gP K 54 64++Ps.flatten)=Bi):=by show _=_;rw[←hh0d];exact hBid
    rw[hBid]at HFIN
    have HH0:Hid (iT 32 0=h0):=hh0d
    clear hBid hh0d
    have HTW:Hid (∀W',Below wr.heap.size wr W'→dR W'):=fun W' hW'=>HT.out.later (NB.out.trans (hW'.mono NB.out.size)) (nQ _)
    have HPW:Hid (∀W',Below wr.heap.size wr W'→dZ W' pb po np vs Ps):=fun W' hW'=>HP.out.later (NB.out.trans (hW'.mono NB.out.size)) (nQ _)
    have hlr:w.heap.size+1+1<wr.heap.size:=(Array.getElem?_eq_some_iff.1 N2.out).1
    have HIP:Hid (∀W',Below wr.heap.size wr W'→eF W' (.slice (some ⟨w.heap.size+1,0,none⟩) 64 64) (gP K 54 64)):=fun W' hW'=>by
     have e:=pW ((hW'.block _ (by omega)).trans N1.out) (m8 K 54 64) (by rw[cD];decide)
     rw[cD]at e
     exact e
    have HOP:Hid (∀W',Below wr.heap.size wr W'→eF W' (.slice (some ⟨w.heap.size+1+1,0,none⟩) 64 64) (gP K 92 64)):=fun W' hW'=>by
     have e:=pW ((hW'.block _ hlr).trans N2.out) (m8 K 92 64) (by rw[cD];decide)
     rw[cD]at e
     exact e
    have hi32:Hid (∀L:List Int,L.length=32→(prog.info? 22).map (·.size)=some (Iv .u8 L).size):=fun L hL=>by rw[aD,hL];exact iB
    have hz32:Hid (∀L:List Int,L.length=32→(Iv .u8 (aA 32)).size=(Iv .u8 L).size):=fun L hL=>by rw[aD,aD,hL];rfl
    refine rN (ops:=i6) (wT (.slice (some ⟨kb,ko,none⟩) kl kcap) undef u8 (.slice (some ⟨kb,ko,none⟩) kl kcap) (.int .i64 (kl:Int)) (.bool (decide ((64:Int)<(kl:Int)))) undef undef undef undef (.slice (some ⟨w.heap.size+1,0,none⟩) 64 64) (.slice (some ⟨kb,ko,none⟩) kl kcap) (.int .i64 (kl:Int)) (.slice (some ⟨w.heap.size+1+1,0,none⟩) 64 64) (.slice (some ⟨kb,ko,none⟩) kl kcap) (.int .i64 (kl:Int)) u25 u26 u27 u28 u29 u30 u31 u32 u33 u34 u35 u36 pb po np pcap w.heap.size h0 (gP K 54 64) Ps.flatten Bi wr) (by kernel_rfl) ?_ ?_ ?_
    ·exact⟨undef,undef,undef,undef,undef,undef,undef,undef,rfl,{ size:=rfl,bel:=bDr hBW 1,p0:=fun h=>(by cases h),p1:=fun h=>(by cases h),p4:=fun h=>(by cases h),p6:=fun h=>(by cases h),p2:=fun h=>(by cases h),p3:=fun h=>(by cases h),p5:=fun h=>(by cases h),p7:=fun h=>(by cases h),p8:=fun h=>(by cases h) }⟩
    ·rintro listed a w1 ⟨y9,y37,y38,y39,y40,y41,y42,y43,rfl,h⟩ hready
     obtain⟨l0,l1,l2,l3,l4,l5,l6,l7,l8⟩:=aeM h.size hready
     obtain rfl:=h.p0 l0
     obtain rfl:=h.p1 l1
     obtain rfl:=h.p4 l4
     obtain rfl:=h.p6 l6
     obtain⟨g,rfl,hg,hrow⟩:=h.p7 l7
     rw[l8,if_pos rfl]at hrow
     have hbel:=h.bel
     clear h hready l0 l1 l2 l3 l4 l5 l6 l7 l8
     unfold rY
     obtain⟨V,hV⟩:∃x,x=w1:=⟨_,rfl⟩
     rw[←hV]at hrow hbel⊢
     clear hV
     have Q1:Hid _:=hrow
     have QO:Hid _:=HOP.out V hbel
     have QT:Hid _:=HTW.out V hbel
     have QR:Hid (V.heap[w.heap.size]? =some (.cells (Iv .u8 (aA 32)) 22)):=(hbel.block _ (by omega)).trans NR.out
     have QB:Hid (Below w.heap.size w V):=NB.out.trans (hbel.mono NB.out.size)
     have hlV:g<V.heap.size:=(Array.getElem?_eq_some_iff.1 hrow).1
     have hsV:=hbel.size
     have QI:Hid (eF V (.slice (some ⟨g,0,none⟩) 32 32) Bi):=by
      have e:=pW hrow HBIB.out (by rw[hBil];decide)
      rw[hBil]at e
      exact e
     clear hrow hbel HOP HTW HPW HIP NR NB N1 N2 HBID HH0
     go_wp2_with fail
     refine wRh 2 uO (by kernel_rfl) ?_
     simp only[tU,tJ,dJ,dY]
     repeat(go_big_quiet_step (fail))
     refine wqN ?_
     go_wp2_with fail
     have HP2:dZ (V.drew.alloc (.cells #[.slice (some ⟨w.heap.size+1+1,0,none⟩) 64 64,.slice (some ⟨g,0,none⟩) 32 32] 48)) V.heap.size 0 2 [.slice (some ⟨w.heap.size+1+1,0,none⟩) 64 64,.slice (some ⟨g,0,none⟩) 32 32] [gP K 92 64,Bi]:=dZ.two (w:=V.drew) (show eF V _ _ from QO.out) (show eF V _ _ from QI.out)
     obtain⟨V2,hV2⟩:∃x,x=(V.alloc (.cells #[.slice (some ⟨w.heap.size+1+1,0,none⟩) 64 64,.slice (some ⟨g,0,none⟩) 32 32] 48)).drew:=⟨_,rfl⟩
     have HP3:Hid (dZ V2 V.heap.size 0 2 [.slice (some ⟨w.heap.size+1+1,0,none⟩) 64 64,.slice (some ⟨g,0,none⟩) 32 32] [gP K 92 64,Bi]):=by show dZ _ _ _ _ _ _;rw[hV2];exact HP2
     have CB:Hid (Below w.heap.size w V2):=by show Below _ _ _;rw[hV2];exact bDr (QB.out.alloc QB.out.size _) 1
     have CR:Hid (V2.heap[w.heap.size]? =some (.cells (Iv .u8 (aA 32)) 22)):=by show _=_;rw[hV2];exact(hAO V _ (by omega)).trans QR.out
     have hs2:w.heap.size<V2.heap.size:=(Array.getElem?_eq_some_iff.1 CR.out).1
     rw[←hV2]
     clear hV2 HP2 QO QI QB QR Q1
     refine(pN [gP K 92 64,Bi] _ 2 2 V.heap.size 0 V2 HP3.out (by simp[cD,hBil]) (HT.out.later CB.out (nQ _)) Bo (by rw[show[gP K 92 64,Bi].flatten=gP K 92 64++Bi by simp];exact HFIN)).mono ?_
     rintro e w9 ⟨rfl,hb9⟩
     have GR9:Hid _:=(hb9.block w.heap.size hs2).trans CR.out
     have B9:Hid (Below w.heap.size w w9):=CB.out.trans (hb9.mono CB.out.size)
     clear hb9 CR CB HP3
     go_wp2_with(refine wpPr rfl 22 _ _ rfl w.heap.size (Iv .u8 Bo) rfl rfl _ _ GR9.out (hi32.out Bo hBo) (hz32.out Bo hBo) (aG _ _) ?_)
     intro W9 hP9
     go_wp2
     exact bodyPost_ret (v:=.agg (Iv .u8 Bo)) (results_cell_row rfl _ _ _ _ (Iv .u8 Bo) _ _ rfl hP9.here underlying22 rfl (hi32.out Bo hBo)) rfl ⟨rfl,hP9.below _ _ B9.out (nQ _)⟩
    ·rintro listed i a w1 ⟨y9,y37,y38,y39,y40,y41,y42,y43,rfl,h⟩ hi
     match i,hi with
     | 0,hi=>exact aO rfl (af3 h hi (fun w' hw'=>xF 32 0 rfl (by decide) (by decide) none 0 w' (HTW.out w' hw') h0 HH0.out))
     | 1,hi=>exact aO rfl (af4 h hi)
     | 2,hi=>exact aO rfl (af5 h hi)
     | 3,hi=>exact aO rfl (af6 h hi (fun w' y39 hw' hb39=>by obtain⟨g,rfl,hg,hrow⟩:=hb39;exact(sN h0 [] [gP K 54 64] [.slice (some ⟨w.heap.size+1,0,none⟩) 64 64] 0 0 0 h0 (aA 64) rfl (qO.start h0 (aA 64) rfl) (.inr rfl) hh0 h032.out (fun i=>by simp) (by simp[cD]) 1 1 g 0 w' (dZ.row1 hrow (HIP.out w' hw')) (HTW.out w' hw')).mono (fun e w2 hx=>by obtain⟨k,t,fn,h,b,e1,e2,e3,e4,e5⟩:=hx;exact⟨_,e1,⟨k,t,fn,h,b,rfl,e2,by simpa using e3,e4⟩,e5⟩)))
     | 4,hi=>exact aO rfl (af7 h hi)
     | 5,hi=>exact aO rfl (af8 h hi (fun w' y40 hw' h40=>by obtain⟨k0,t0,fn0,h1,b1,rfl,ht0,s0,hk0⟩:=h40;exact(sN h0 (gP K 54 64) Ps vs k0 t0 fn0 h1 b1 ht0 s0 hk0 hh0 h032.out (m8 _ _ _) (by rw[cD];omega) np pcap pb po w' (HPW.out w' hw') (HTW.out w' hw')).mono (fun e w2 hx=>by obtain⟨k,t,fn,h,b,e1,e2,e3,e4,e5⟩:=hx;exact⟨_,e1,⟨k,t,fn,h,b,rfl,e2,e3,e4⟩,e5⟩)))
     | 6,hi=>exact aO rfl (af9 h hi (fun w' y42 hw' h42=>by obtain⟨k0,t0,fn0,h1,b1,rfl,ht0,s0,hk0⟩:=h42;exact AU h0 (gP K 54 64++Ps.flatten) h1 b1 k0 t0 fn0 ht0 s0 hk0 hh0 h032.out (aY (m8 _ _ _) HP.out.bytes) (by rw[lQ,cD];omega) w' (HTW.out w' hw') Bi HBID.out))
     | 7,hi=>exact aO rfl (agA h hi hzb)
     | 8,hi=>exact aO rfl (agB h hi (hi32.out Bi hBil) (hz32.out Bi hBil))
     | n+9,hi=>
       obtain⟨_,o,ho,_⟩:=mem_ready.1 hi
       exact absurd (Array.getElem?_eq_some_iff.1 ho).1 (by show¬n+9<9;omega)
end Go.Proofs.YtgcepckaolkeoaaGreatDoor
