import Derived.Test.YtmjccemdldidaaaGreatDoorMH33
import Derived.Laws.BitsAllLaws
namespace Go.Proofs.YtmjccemdldidaaaGreatDoor
open Go.RowKit
open Go.Proofs.Tryz
open Go renaming heap_alloc_new → hAN, heap_alloc_old → hAO, wpList_load_row → wpLr
open List renaming drop_zero → dY, length_append → lQ, length_map → lU, mem_cons_of_mem → mC, mem_cons_self → mQ, nil_append → nA, not_mem_nil → nY, replicate → rQ, setIfInBounds_toArray → sU, set_cons_succ → sJ, set_cons_zero → sY, take_succ_eq_append_getElem → tQ
open Nat renaming le_refl → nQ, le_trans → nU, lt_of_lt_of_le → nJ
set_option linter.unusedVariables false
set_option maxHeartbeats 2000000
set_option maxRecDepth 100000
structure Fd (w0:World) (g:Nat) (ta:Option Addr) (zs:LI) (c:Nat) (R:List (Nat×Array Value×TypeId)) (W:World):Prop where
 bel:Below w0.heap.size w0 W
 le:w0.heap.size≤g
 drw:gF W g ta zs c
 row:∀r∈R,r.1≠g∧r.1<W.heap.size∧W.heap[r.1]? =some (.cells r.2.1 r.2.2)
section
variable {w0:World} {g:Nat} {ta:Option Addr} {zs:LI} {c:Nat} {R:List (Nat×Array Value×TypeId)} {W W':World}
theorem Fd.lt (h:Fd w0 g ta zs c R W):g<W.heap.size:=h.drw.lt
theorem Fd.at (h:Fd w0 g ta zs c R W) {b:Nat} {cs:Array Value} {t:TypeId} (hr:(b,cs,t)∈R):W.heap[b]? =some (.cells cs t):=(h.row _ hr).2.2
theorem Fd.later {B:Nat} (h:Fd w0 g ta zs c R W) (hb:Below B W W') (hB:W.heap.size≤B):Fd w0 g ta zs c R W':=
 have hs:w0.heap.size≤W.heap.size:=h.bel.size
 have hb':Below W.heap.size W W':=hb.mono hB
 ⟨h.bel.trans (hb'.mono hs),h.le,h.drw.later hb' h.lt,fun r hr=>⟨(h.row r hr).1,nJ (h.row r hr).2.1 hb.size,(hb'.block _ (h.row r hr).2.1).trans (h.row r hr).2.2⟩⟩
theorem Fd.keep (h:Fd w0 g ta zs c R W) (hD:gF W' g ta zs c) (hK:fA g W W'):Fd w0 g ta zs c R W':=
 ⟨hK.below _ _ h.bel h.le,h.le,hD,fun r hr=>⟨(h.row r hr).1,nJ (h.row r hr).2.1 hK.size,(hK.far _ (h.row r hr).2.1 (h.row r hr).1).trans (h.row r hr).2.2⟩⟩
theorem Fd.addRow (h:Fd w0 g ta zs c R W) (b:Nat) (l:Array Value) (t:TypeId) (hb:b≠g) (hr:W.heap[b]? =some (.cells l t)):Fd w0 g ta zs c ((b,l,t)::R) W:=
 ⟨h.bel,h.le,h.drw,fun r hr'=>by
  rcases List.mem_cons.1 hr' with rfl|hr'
  ·exact⟨hb,(Array.getElem?_eq_some_iff.1 hr).1,hr⟩
  ·exact h.row r hr'⟩
theorem Fd.newRow {l:Array Value} {t:TypeId} {cs:Array Value} (h:Fd w0 g ta zs c R W) (hP:nE (W.alloc (.cells cs t)) W.heap.size l t W'):Fd w0 g ta zs c ((W.heap.size,l,t)::R) W':=by
 have hb:Below W.heap.size W W':=hP.below _ _ ((Below.refl _ _).alloc (nQ _) _) (nQ _)
 exact(h.later hb (nQ _)).addRow _ _ _ (by have:=h.lt;omega) hP.here
theorem Fd.none (h:Fd w0 g ta zs c R W):Fd w0 g ta zs c [] W:=⟨h.bel,h.le,h.drw,fun r hr=>(by cases hr)⟩
end
theorem bM.below {k:IntKind} {e:TypeId} {base B:Nat} {w w':World} {v:Value} {l:LI} (h:bM k e base w v l) (hb:Below B w w') (hlt:∀b,v.ownBlock=some b→b<B):bM k e base w' v l:=by
 obtain⟨h1,h2⟩:=h
 refine⟨h1,?_⟩
 rcases h2 with h2|⟨g,cap,cur,hv,hg,hh,r⟩
 ·exact .inl h2
 ·exact .inr ⟨g,cap,cur,hv,hg,(hb.block g (hlt g (by rw[hv];rfl))).trans hh,r⟩
theorem bM.four {k:IntKind} {e:TypeId} {base:Nat} (w:World) (a b c d:Int) (hb:base≤w.heap.size):bM k e base (w.alloc (.cells #[.int k a,.int k b,.int k c,.int k d] e)) (.slice (some ⟨w.heap.size,0,none⟩) 4 4) [a,b,c,d]:=by
 refine⟨by simp[eT],.inr ⟨w.heap.size,4,#[.int k a,.int k b,.int k c,.int k d],by simp,hb,hAN w _,by simp,by unfold maxLen;omega,by simp,?_⟩⟩
 simp[iv]
theorem TD.of_sl {w:World} {g:Nat} {l:LI} (h:Sl w g 0 l):TD w g l:=fun k hk=>by have:=h.2 k hk;rw[Nat.zero_add]at this;exact this
theorem Fd.above {w0:World} {g:Nat} {ta:Option Addr} {zs:LI} {c:Nat} {W W':World} {b:Nat} {cs:Array Value} {t:TypeId} (h:Fd w0 g ta zs c [] W) (hP:nE W b cs t W') (hb:g<b):Fd w0 g ta zs c [] W':=
 have hle:=h.le
 ⟨hP.below _ _ h.bel (by omega),h.le,h.drw.later (hP.below b W (Below.refl _ _) (nQ _)) hb,fun r hr=>(by cases hr)⟩
theorem Fd.putRow {w0:World} {g:Nat} {ta:Option Addr} {zs:LI} {c:Nat} {R:List (Nat×Array Value×TypeId)} {W W':World} {b:Nat} {cs:Array Value} {t:TypeId} (h:Fd w0 g ta zs c R W) (hP:nE W b cs t W') (hb:g<b) (hne:∀r∈R,r.1≠b):Fd w0 g ta zs c ((b,cs,t)::R) W':=
 have hle:=h.le
 ⟨hP.below _ _ h.bel (by omega),h.le,h.drw.later (hP.below b W (Below.refl _ _) (nQ _)) hb,fun r hr=>by
  rcases List.mem_cons.1 hr with rfl|hr
  ·exact⟨by simp only;omega,(Array.getElem?_eq_some_iff.1 hP.here).1,hP.here⟩
  ·have k:=h.row r hr
   exact⟨k.1,by rw[hP.size];exact k.2.1,(hP.far _ (hne r hr)).trans k.2.2⟩⟩
theorem Fd.sub {w0:World} {g:Nat} {ta:Option Addr} {zs:LI} {c:Nat} {R R':List (Nat×Array Value×TypeId)} {W:World} (h:Fd w0 g ta zs c R W) (hs:∀r∈R',r∈R):Fd w0 g ta zs c R' W:=⟨h.bel,h.le,h.drw,fun r hr=>h.row r (hs r hr)⟩
section
variable {P:Program} {ops:Array Oper} {Q:Exit→Act→World→Prop} {S1:World→Prop} {a:Act} {w:World} {T0:Tr} {X:Type}
theorem YE (T:Tr) (Fa:X→World→Prop) (F:X→Act) (hm:Hid (∀x w',Fa x w'→bR P ops Q S1 T (F x) w')→bR P ops Q S1 T0 a w) (hc:∀x w',Fa x w'→bR P ops Q S1 T (F x) w'):bR P ops Q S1 T0 a w:=hm hc
theorem YF (T:Tr) (Fa:X→Nat→World→Prop) (F:X→Nat→Act) (hm:Hid (∀x c w',Fa x c w'→bR P ops Q S1 T (F x c) w')→bR P ops Q S1 T0 a w) (hc:∀x c w',Fa x c w'→bR P ops Q S1 T (F x c) w'):bR P ops Q S1 T0 a w:=hm hc
end
theorem adT (a b:Int) (ha:0≤a∧a≤255) (hb:0≤b∧b≤255):xb (xb a b) b=a:=by
 have h1:xb a b=((a.toNat^^^b.toNat:Nat):Int):=u8_xor a b ha.1 (by omega) hb.1 (by omega)
 have h2:=agI a b
 have h3:xb (xb a b) b=(((xb a b).toNat^^^b.toNat:Nat):Int):=u8_xor (xb a b) b h2.1 (by omega) hb.1 (by omega)
 rw[h3,h1,Int.toNat_natCast,Nat.xor_assoc,Nat.xor_self,Nat.xor_zero]
 omega
theorem SJ (B:Nat→LI) (text:LI) (k i:Nat) (hi:i<k):(iW B text k).getD i 0=xb (text.getD i 0) ((B (1+i / 64)).getD (i%64) 0):=by
 simp[iW,List.getD_eq_getElem?_getD,hi]
theorem VY (B:Nat→LI) (hB:∀i,aC (B i)) (text:LI) (ht:aC text) (n:Nat) (hn:text.length=n):iW B (iW B text n) n=text:=by
 apply List.ext_getElem
 ·rw[eF,hn]
 ·intro i h1 h2
  have e1:(iW B (iW B text n) n)[i]=(iW B (iW B text n) n).getD i 0:=by simp[List.getD_eq_getElem?_getD,h1]
  have e2:text[i]=text.getD i 0:=by simp[List.getD_eq_getElem?_getD,h2]
  rw[e1,e2,SJ _ _ _ _ (by omega),SJ _ _ _ _ (by omega)]
  exact adT _ _ (ht i) (hB _ _)
theorem LG (B:Nat→LI) (E text:LI) (n:Nat) (hn:text.length=n):(sL B E text).take n=iW B text n:=by
 unfold sL
 rw[hn,List.take_append_of_le_length (by rw[eF];exact nQ _),List.take_of_length_le (by rw[eF];exact nQ _)]
theorem YV (B:Nat→LI) (E text:LI) (n:Nat) (hn:text.length=n):(sL B E text).drop n=FY B E (iW B text n):=by
 unfold sL
 rw[hn,List.drop_append_of_le_length (by rw[eF];exact nQ _),List.drop_of_length_le (by rw[eF];exact nQ _),nA]
theorem H7 (key h text:LI) (n:Nat) (hn:text.length=n) (hb:aC text):KI key h (GZ key h text) n∧opX key (GZ key h text) n=text:=by
 constructor
 ·unfold KI GZ
  rw[LG _ _ _ _ hn,YV _ _ _ _ hn]
 ·unfold opX GZ
  rw[LG _ _ _ _ hn]
  exact VY _ (NN key zn) text hb n hn
theorem ajO (Pt X1 X2:LI) (h1:Pt.length=32):aP (qE Pt X1 X2) 0 32=Pt:=by
 unfold aP qE
 rw[dY,←h1]
 exact List.take_left
theorem ajM (Pt X1 X2:LI) (h1:Pt.length=32) (h2:X1.length=48):aP (qE Pt X1 X2) 32 48=X1:=by
 unfold aP qE
 rw[←h1,List.drop_left,←h2]
 exact List.take_left
theorem ajN (Pt X1 X2:LI) (h1:Pt.length=32) (h2:X1.length=48) (h3:X2.length=28):aP (qE Pt X1 X2) 80 28=X2:=by
 unfold aP qE
 rw[show 80=Pt.length+X1.length by omega,←List.drop_drop,List.drop_left,List.drop_left,←h3]
 exact List.take_left
theorem acV {Pt X1 X2:LI} (h1:aC Pt) (h2:aC X1) (h3:aC X2):aC (qE Pt X1 X2):=aV h1 (aV h2 (aV h3 (oT 32)))
theorem LW {c h mine i eph st g gate:LI} {m:Int} {Pt C1 H1 p1 X1 C2 H2 p2 X2 C3 H3:LI} {m1 m2 m3:Int} (K:rU c h mine i eph st g m Pt C1 H1 p1 X1 C2 H2 p2 X2 C3 H3 m1 m2 m3) (lg:gate.length=32) (bg:aC gate) (A1:fW gate Pt=p1) (A2:fW gate i=p2) (q:Int):
 lZ c h gate (qE Pt X1 X2) q Pt X1 X2 C1 H1 p1 (PG C1 p1) C2 H2 i p2 (PG C2 p2) C3 H3 st (IntKind.i64.wrap (q+1)) (IntKind.i64.wrap (IntKind.i64.wrap (q+1)+1))∧KI (PG C1 p1) H1 X1 32∧KI (PG C2 p2) H2 X2 12:=by
 have e1:GZ (PG C1 p1) H1 i=X1:=K.eX1
 have e2:GZ (PG C2 p2) H2 st=X2:=K.eX2
 have o1:=H7 (PG C1 p1) H1 i 32 K.lpu K.bpu
 have o2:=H7 (PG C2 p2) H2 st 12 K.lst K.bst
 rw[e1]at o1
 rw[e2]at o2
 exact⟨⟨K.lc,K.lh,lg,jG K.lPt K.lX1 K.lX2,K.bc,K.bh,bg,acV K.bPt K.bX1 K.bX2,ajO _ _ _ K.lPt,ajM _ _ _ K.lPt K.lX1,ajN _ _ _ K.lPt K.lX1 K.lX2,K.eC1,K.eH1,A1,rfl,K.eC2,K.eH2,o1.2,A2,rfl,K.eC3,K.eH3,o2.2,rfl,rfl⟩,o1.1,o2.1⟩
def kD (x:Int):LI:=(List.range 4).map fun i=>x / 256^i%256
theorem iG (x:Int):(kD x).length=4:=by simp[kD]
def EM (k:Int) (M:Nat):LI:=k::rQ (M - 1) 0
theorem OH (k:Int) (M:Nat) (h:0<M):(EM k M).length=M:=by simp[EM];omega
def sN (k r:Int) (z:LI):LI:=[k,0,0,0]++(kD r++z)
theorem vD (k r:Int) (z:LI):(sN k r z).length=z.length+8:=by simp[sN,kD];omega
theorem xU (z:LI) (o n:Nat):aP z o n++z.drop (o+n)=z.drop o:=by
 unfold aP
 rw[←List.drop_drop]
 exact List.take_append_drop n (z.drop o)
theorem ac2 (z:LI) (o n:Nat) (h:z.length=o+n):aP z o n=z.drop o:=by
 unfold aP
 rw[List.take_of_length_le (by simp;omega)]
structure abJ where
 b:Nat
 o:Nat
 c:Nat
 l:LI
def abJ.val (p:abJ):Value:=.slice (some ⟨p.b,p.o,none⟩) p.l.length p.c
def abJ.lies (w:World) (p:abJ):Prop:=∀j,j<p.l.length→w.cell? ⟨p.b,p.o+j,none⟩=some (.int .u8 (p.l.getD j 0))
theorem tY {w:World} {g c:Nat} {r:Int} {z:LI} {t:TypeId} {fr:Nat×Nat} (hg:w.heap[g]? =some (.cells (WL r z).toArray t fr)) (o n:Nat) (h:o+n≤z.length):abJ.lies w ⟨g,o+1,c,aP z o n⟩:=by
 intro j hj
 have hj':j<n:=by
  have:j<(aP z o n).length:=hj
  rw[aZ z o n _ rfl h]at this
  exact this
 show w.cell? ⟨g,o+1+j,none⟩=some (.int .u8 ((aP z o n).getD j 0))
 rw[cell_of_row _ _ _ _ _ _ hg,show o+1+j=(o+j)+1 by omega,WH r z (o+j) (by omega)]
 simp[aP,hj']
theorem NT (r:Int):bytesOf [r] (4*1)=kD r:=by
 simp[bytesOf,kD,iI,aM,List.range_succ]
theorem U2 (r:Int) (h0:0≤r) (h1:r<4294967296) (w:World):
 Calls prog 46 #[.int .u32 r] w fun e w'=>∃v,e=.returned v∧bM .u8 5 w.heap.size w' v (kD r)∧Below w.heap.size w w':=by
 go_enter func46,ntmps46
 go_wp2_with fail
 refine(xO [r] 1 rfl ?_ (by omega) (some ⟨w.heap.size,0,none⟩) 1 _ ?_).mono ?_
 ·intro i
  match i with
  | 0=>exact⟨h0,h1⟩
  | i+1=>exact⟨by simp,by simp⟩
 ·intro i hi
  refine⟨w.heap.size,0,rfl,?_⟩
  have hi':i=0:=by simpa using hi
  subst hi'
  simp
 rintro e w1 ⟨v,rfl,hown,hb⟩
 rw[NT]at hown
 go_wp2
 go_ret
 exact⟨_,rfl,hown.mono (by simp),((Below.refl _ _).alloc (nQ _) _).trans (hb.mono (by simp))⟩
theorem U0 (r:Int) (z:LI) (hz:z.length=140) (h0:0≤r) (h1:r<4294967296) (w:World):
 Calls prog 22 #[.agg (WL r z).toArray] w fun e w'=>∃v,e=.returned v∧bM .u8 5 w.heap.size w' v (sN 1 r z)∧Below w.heap.size w w':=by
 have hr:=WI r z
 obtain⟨X,hX⟩:∃X,X=(w.alloc (.cells (WL r z).toArray 37)):=⟨_,rfl⟩
 have hX0:X.heap[w.heap.size]? =some (.cells (WL r z).toArray 37):=by rw[hX];exact hAN _ _
 have hXs:X.heap.size=w.heap.size+1:=by rw[hX];simp
 have hXB:Below w.heap.size w X:=by rw[hX];exact(Below.refl _ _).alloc (nQ _) _
 have HO:bM .u8 5 X.heap.size (X.alloc (.cells (Iv .u8 [1,0,0,0]) 5)) (.slice (some ⟨X.heap.size,0,none⟩) 4 4) [1,0,0,0]:=by
  refine⟨by simp[eT],.inr ⟨X.heap.size,4,_,by simp,nQ _,hAN X _,by simp,by unfold maxLen;omega,by simp[Iv],?_⟩⟩
  simp[iv,Iv]
 have HB0:Below X.heap.size X (X.alloc (.cells (Iv .u8 [1,0,0,0]) 5)):=(Below.refl _ _).alloc (nQ _) _
 have hc0:(X.alloc (.cells (Iv .u8 [1,0,0,0]) 5)).cell? ⟨w.heap.size,0,none⟩=some (.int .u32 r):=by
  rw[cell_of_row _ _ _ _ _ _ ((hAO _ _ (by omega)).trans hX0)]
  exact hr
 have hlz0:Hid ((aP z 0 32).length=32):=aZ z 0 32 140 hz (by omega)
 have hln0:Hid (([1,0,0,0]++kD r).length+32≤1000000000):=by show _≤_;simp only[lQ,List.length_cons,List.length_nil,iG];omega
 have hlz1:Hid ((aP z 32 48).length=48):=aZ z 32 48 140 hz (by omega)
 have hln1:Hid ((([1,0,0,0]++kD r)++aP z 0 32).length+48≤1000000000):=by show _≤_;simp only[lQ,List.length_cons,List.length_nil,iG,aZ z 0 32 140 hz (by omega)];omega
 have hlz2:Hid ((aP z 80 28).length=28):=aZ z 80 28 140 hz (by omega)
 have hln2:Hid (((([1,0,0,0]++kD r)++aP z 0 32)++aP z 32 48).length+28≤1000000000):=by show _≤_;simp only[lQ,List.length_cons,List.length_nil,iG,aZ z 0 32 140 hz (by omega),aZ z 32 48 140 hz (by omega)];omega
 have hlz3:Hid ((aP z 108 16).length=16):=aZ z 108 16 140 hz (by omega)
 have hln3:Hid ((((([1,0,0,0]++kD r)++aP z 0 32)++aP z 32 48)++aP z 80 28).length+16≤1000000000):=by show _≤_;simp only[lQ,List.length_cons,List.length_nil,iG,aZ z 0 32 140 hz (by omega),aZ z 32 48 140 hz (by omega),aZ z 80 28 140 hz (by omega)];omega
 have hlz4:Hid ((aP z 124 16).length=16):=aZ z 124 16 140 hz (by omega)
 have hln4:Hid (((((([1,0,0,0]++kD r)++aP z 0 32)++aP z 32 48)++aP z 80 28)++aP z 108 16).length+16≤1000000000):=by show _≤_;simp only[lQ,List.length_cons,List.length_nil,iG,aZ z 0 32 140 hz (by omega),aZ z 32 48 140 hz (by omega),aZ z 80 28 140 hz (by omega),aZ z 108 16 140 hz (by omega)];omega
 have HX0:Hid _:=hX0
 have HXB:Hid _:=hXB
 have HXS:Hid _:=hXs
 have HHO:Hid _:=HO
 have HHB:Hid _:=HB0
 have HXE:Hid (X.alloc (.cells (Iv .u8 [1,0,0,0]) 5)=((w.alloc (.cells (WL r z).toArray 37)).alloc (.cells #[.int .u8 1,.int .u8 0,.int .u8 0,.int .u8 0] 5))):=by show _=_;rw[hX];rfl
 have HC0:Hid _:=hc0
 clear hX0 hXB hXs HO HB0 hc0 hX
 have hrr:((w.alloc (.cells (WL r z).toArray 37)).alloc (.cells #[.int .u8 1,.int .u8 0,.int .u8 0,.int .u8 0] 5)).cell? ⟨w.heap.size,0,none⟩=some (.int .u32 r):=by rw[←HXE.out];exact HC0.out
 go_enter func22,ntmps22
 go_wp2_with fail
 rw[←HXE.out]
 refine(U2 r h0 h1 _).mono ?_
 rintro e w1 ⟨v1,rfl,o1,b1⟩
 have q0:bM .u8 5 X.heap.size w1 (.slice (some ⟨X.heap.size,0,none⟩) 4 4) [1,0,0,0]:=bM.later HHO.out b1
 have qb:Below X.heap.size X w1:=HHB.out.trans (b1.mono HHB.out.size)
 have qs:=qb.size
 obtain⟨_,hbad⟩|⟨gv,cv,rfl,_,_,_,_,hcv,_⟩:=o1.at
 ·exact absurd (congrArg List.length hbad) (by rw[iG];simp)
 rw[iG]at hcv⊢
 have HCV:Hid (∀j,j<4→w1.cell? ⟨gv,0+j,none⟩=some (.int .u8 ((kD r).getD j 0))):=fun j hj=>by rw[Nat.zero_add];exact hcv j hj
 have HXS2:=HXS.out
 have Q0:Hid _:=q0
 have QB:Hid _:=qb
 have QS:Hid _:=qs
 clear q0 qb qs hcv o1 b1 hrr HXS2
 rw[HXS.out]at Q0 QB QS
 go_wp2_with(first
  | (at_builtin;refine bU .u8 22 5 1 underlying22 sW (by decide) rfl (.tmp 4) (.tmp 7) rfl (w.heap.size+1) X _ _ [1,0,0,0] gv 0 4 cv (kD r) (iG r) rfl rfl Q0.out QB.out QS.out (by simp) HCV.out ?_;intro v2 w2 hown2 hbel2 _ _
     have HN0:Hid (∀j,j<32→w2.cell? ⟨w.heap.size,0+1+j,none⟩=some (.int .u8 ((aP z 0 32).getD j 0))):=fun j hj=>tY (c:=32) ((hbel2.block w.heap.size (by omega)).trans HX0.out) 0 32 (by omega) j (by show j<(aP z 0 32).length;rw[hlz0.out];exact hj))
  | (at_builtin;refine bU .u8 22 5 1 underlying22 sW (by decide) rfl (.tmp 9) (.tmp 11) rfl (w.heap.size+1) X _ _ ([1,0,0,0]++kD r) w.heap.size 1 32 32 (aP z 0 32) hlz0.out rfl rfl hown2 hbel2 (nU (Nat.le_of_eq HXS.out.symm) hbel2.size) hln0.out HN0.out ?_;intro v3 w3 hown3 hbel3 _ _
     have HN1:Hid (∀j,j<48→w3.cell? ⟨w.heap.size,32+1+j,none⟩=some (.int .u8 ((aP z 32 48).getD j 0))):=fun j hj=>tY (c:=48) ((hbel3.block w.heap.size (by omega)).trans HX0.out) 32 48 (by omega) j (by show j<(aP z 32 48).length;rw[hlz1.out];exact hj))
  | (at_builtin;refine bU .u8 22 5 1 underlying22 sW (by decide) rfl (.tmp 13) (.tmp 15) rfl (w.heap.size+1) X _ _ (([1,0,0,0]++kD r)++aP z 0 32) w.heap.size 33 48 48 (aP z 32 48) hlz1.out rfl rfl hown3 hbel3 (nU (Nat.le_of_eq HXS.out.symm) hbel3.size) hln1.out HN1.out ?_;intro v4 w4 hown4 hbel4 _ _
     have HN2:Hid (∀j,j<28→w4.cell? ⟨w.heap.size,80+1+j,none⟩=some (.int .u8 ((aP z 80 28).getD j 0))):=fun j hj=>tY (c:=28) ((hbel4.block w.heap.size (by omega)).trans HX0.out) 80 28 (by omega) j (by show j<(aP z 80 28).length;rw[hlz2.out];exact hj))
  | (at_builtin;refine bU .u8 22 5 1 underlying22 sW (by decide) rfl (.tmp 17) (.tmp 19) rfl (w.heap.size+1) X _ _ ((([1,0,0,0]++kD r)++aP z 0 32)++aP z 32 48) w.heap.size 81 28 28 (aP z 80 28) hlz2.out rfl rfl hown4 hbel4 (nU (Nat.le_of_eq HXS.out.symm) hbel4.size) hln2.out HN2.out ?_;intro v5 w5 hown5 hbel5 _ _
     have HN3:Hid (∀j,j<16→w5.cell? ⟨w.heap.size,108+1+j,none⟩=some (.int .u8 ((aP z 108 16).getD j 0))):=fun j hj=>tY (c:=16) ((hbel5.block w.heap.size (by omega)).trans HX0.out) 108 16 (by omega) j (by show j<(aP z 108 16).length;rw[hlz3.out];exact hj))
  | (at_builtin;refine bU .u8 22 5 1 underlying22 sW (by decide) rfl (.tmp 21) (.tmp 23) rfl (w.heap.size+1) X _ _ (((([1,0,0,0]++kD r)++aP z 0 32)++aP z 32 48)++aP z 80 28) w.heap.size 109 16 16 (aP z 108 16) hlz3.out rfl rfl hown5 hbel5 (nU (Nat.le_of_eq HXS.out.symm) hbel5.size) hln3.out HN3.out ?_;intro v6 w6 hown6 hbel6 _ _
     have HN4:Hid (∀j,j<16→w6.cell? ⟨w.heap.size,124+1+j,none⟩=some (.int .u8 ((aP z 124 16).getD j 0))):=fun j hj=>tY (c:=16) ((hbel6.block w.heap.size (by omega)).trans HX0.out) 124 16 (by omega) j (by show j<(aP z 124 16).length;rw[hlz4.out];exact hj))
  | (at_builtin;refine bU .u8 22 5 1 underlying22 sW (by decide) rfl (.tmp 25) (.tmp 27) rfl (w.heap.size+1) X _ _ ((((([1,0,0,0]++kD r)++aP z 0 32)++aP z 32 48)++aP z 80 28)++aP z 108 16) w.heap.size 125 16 16 (aP z 124 16) hlz4.out rfl rfl hown6 hbel6 (nU (Nat.le_of_eq HXS.out.symm) hbel6.size) hln4.out HN4.out ?_;intro v7 w7 hown7 hbel7 _ _))
 go_ret
 have hfin:(((((([1,0,0,0]++kD r)++aP z 0 32)++aP z 32 48)++aP z 80 28)++aP z 108 16)++aP z 124 16)=sN 1 r z:=by
  have e:(((((([1,0,0,0]++kD r)++aP z 0 32)++aP z 32 48)++aP z 80 28)++aP z 108 16)++aP z 124 16)=[1,0,0,0]++(kD r++(aP z 0 32++(aP z 32 48++(aP z 80 28++(aP z 108 16++(aP z 124 16)))))):=by simp only[List.append_assoc]
  rw[e,ac2 z 124 16 hz,xU z 108 16,xU z 80 28,xU z 32 48,xU z 0 32]
  rfl
 rw[hfin]at hown7
 exact⟨_,rfl,hown7.mono (by omega),HXB.out.trans (hbel7.mono (by omega))⟩
theorem AX:(prog.info? 37).map (·.size)=some 141:=by kernel_rfl
theorem xP:(prog.info? 46).map (·.size)=some 148:=by kernel_rfl
theorem uA (r:Int) (z:LI) (hz:z.length=140) (h0:0≤r) (h1:r<4294967296) (w:World):
 Calls prog 12 #[.agg (WL r z).toArray] w fun e w'=>e=.returned (.agg (Iv .u8 (sN 1 r z)))∧Below w.heap.size w w':=by
 have hsz:Hid ((WL r z).toArray.size=141):=by show _=_;rw[nF,hz]
 have hiL:Hid ((prog.info? 37).map (·.size)=some (WL r z).toArray.size):=by show _=_;rw[hsz.out];exact AX
 have hlen:(sN 1 r z).length=148:=by rw[vD,hz]
 have hzv:∀W,(zeroValue 46).run prog W=.ok (.agg (Iv .u8 (EM 0 148))) W:=(zero_of_info (n:=148) (by kernel_rfl)).1
 obtain⟨W,hW,g0,g1,g2,hs,hb⟩:=pL w (.cells (WL r z).toArray 37) (.cells (Iv .u8 (EM 0 148)) 46) (.cells (Iv .u8 (EM 0 148)) 46)
 have G2:Hid _:=g2
 have G1:Hid _:=g1
 have G0:Hid _:=g0
 have HB0:Hid _:=hb
 clear g0 g1 g2 hb
 have hzz:Hid ((prog.info? 46).map (·.size)=some (Iv .u8 (EM 0 148)).size):=by show _=_;rw[aD,OH _ _ (by omega)];exact xP
 have HWORD:=fun W=>U0 r z hz h0 h1 W
 generalize sN 1 r z=B at*
 go_enter func12,ntmps12
 go_wp2_with(refine wpPr rfl 46 _ _ rfl (w.heap.size+1+1) (Iv .u8 (EM 0 148)) rfl rfl _ _ G2.out hzz.out rfl (aG _ _) ?_)
 intro W1 hP1
 have K2:=hP1.here
 have K1:=(hP1.far _ (by omega)).trans G1.out
 have K0:=(hP1.far _ (by omega)).trans G0.out
 have hs1:W1.heap.size=w.heap.size+1+1+1:=hP1.size.trans hs
 have HB1:=hP1.below _ _ HB0.out (by omega)
 have J2:Hid _:=K2
 have J1:Hid _:=K1
 have J0:Hid _:=K0
 have JB:Hid _:=HB1
 clear hP1 K2 K1 K0 HB1 G0 G1 G2 HB0 hW hzv hs
 go_wp2_with(refine wpLr rfl 37 _ rfl w.heap.size rfl _ (WL r z).toArray _ _ J0.out underlying37 rfl hiL.out ?_)
 refine(HWORD _).mono ?_
 rintro e w2 ⟨v2,rfl,o2,b2⟩
 obtain⟨_,hbad⟩|⟨a3,c3,rfl,ha3,hb3,_,_,hcv,_⟩:=o2.at
 ·exact absurd (congrArg List.length hbad) (by rw[hlen];simp)
 rw[hlen]at hcv⊢
 have r1:=(b2.block _ (by omega)).trans J2.out
 have r0:=(b2.block _ (by omega)).trans J1.out
 have hbw:=JB.out.trans (b2.mono JB.out.size)
 have y3:∀j,j<148→w2.cell? ⟨a3,j,none⟩=some (.int .u8 (B.getD j 0)):=hcv
 have hn3:a3≠w.heap.size+1+1:=by omega
 clear o2 b2 J2 J1 J0 JB hcv hs1 ha3 hb3 HWORD
 go_wp2_with fail
 go_loopw [10] (fun i wr=>∃k:Nat,k≤148∧i=.int .i64 k∧wr.heap[w.heap.size+1+1]? =some (.cells (Iv .u8 (bV B 148 k)) 46)∧wr.heap[w.heap.size+1]? =some (.cells (Iv .u8 (EM 0 148)) 46)∧(∀j,j<148→wr.cell? ⟨a3,j,none⟩=some (.int .u8 (B.getD j 0)))∧Below w.heap.size w wr) (fun i _=>148 - (intOf i).toNat)
 case atStart=>exact⟨0,Nat.zero_le _,rfl,r1,r0,y3,hbw⟩
 case round=>
  obtain⟨k,hk,rfl,q1,q0,qL,qB⟩:=hrel
  by_cases hlt:k<148
  ·have cB:=qL k hlt
   have cO:∃v,wr.cell? ⟨w.heap.size+1+1,k,none⟩=some v:=by
    rw[cell_of_row _ _ _ _ _ _ q1]
    exact nD _ _ _ (by rw[iB _ _ _ hlen (by omega)];omega)
   obtain⟨v,hv⟩:=cO
   have fO:wr.frozen? ⟨w.heap.size+1+1,k,none⟩=false:=frozen_of_row _ _ _ _ _ q1
   have hgd:B.getD k 0=B[k]:=by rw[List.getD_eq_getElem?_getD,List.getElem?_eq_getElem (by omega)];rfl
   rw[hgd]at cB
   clear hgd
   have Q1:Hid _:=q1
   have Q0:Hid _:=q0
   have QL:Hid _:=qL
   have QB:Hid _:=qB
   clear q1 q0 qL qB r1 r0 y3 hbw
   go_wp2
   go_roundw
   case rel=>
    refine⟨k+1,by omega,by go_num,?_,?_,?_,?_⟩
    ·rw[heap_setCell_same _ _ _ _ _ _ Q1.out,bZ]
     unfold bV
     exact congrArg (fun z=>some (Obj.cells (Iv .u8 z) 46)) (wW B 148 k hlen hlt 0)
    ·rw[heap_setCell_other _ _ _ _ (by simp)]
     exact Q0.out
    ·intro j hj
     rw[World.cell?_setCell_other _ _ _ _ (by intro e;cases e;exact hn3 rfl)]
     exact QL.out j hj
    ·exact QB.out.setCell (p:=⟨w.heap.size+1+1,k,none⟩) (by show w.heap.size≤w.heap.size+1+1;omega) _
   case measure=>simp[intOf];omega
  ·obtain rfl:k=148:=by omega
   rw[tI B 148 hlen]at q1
   have G2:Hid _:=q1
   have G1:Hid _:=q0
   have GB:Hid _:=qB
   clear q1 q0 qL qB r1 r0 y3 hbw
   go_wp2_with(first
    | refine wpLr rfl 46 _ rfl (w.heap.size+1+1) rfl _ (Iv .u8 B) _ _ G2.out underlying46 rfl ?hi ?_
    | refine wpPr rfl 46 _ _ rfl (w.heap.size+1) (Iv .u8 B) rfl rfl _ _ G1.out ?hi2 ?hs ?h1 ?_)
   case hi=>rw[aD,hlen];exact xP
   case hi2=>rw[aD,hlen];exact xP
   case hs=>rw[aD,aD,hlen];rfl
   case h1=>exact aG _ _
   intro W3 hP3
   go_wp2
   exact bodyPost_ret (v:=.agg (Iv .u8 B)) (results_cell_row rfl _ _ _ _ (Iv .u8 B) _ _ rfl hP3.here underlying46 rfl (by rw[aD,hlen];exact xP)) rfl ⟨rfl,hP3.below _ _ GB.out (by omega)⟩
theorem UZ (g n c M:Nat) (k:Int) (w:World) (hn:n≤2000000) (hM:M≤1000) (hne:n≠M):
 Calls prog 23 #[.slice (some ⟨g,0,none⟩) n c,.int .i64 M,.int .u8 k] w fun e w'=>e=.returned (.bool false)∧w'=w:=by
 go_enter func23,ntmps23
 go_wp2
 go_ret
 exact⟨rfl,rfl⟩
theorem QY (g n c:Nat) (z0 z1 z2 z3 k:Int) (r:Bool) (w:World) (hn:n≤1000) (h5:5≤n)
 (c0:w.cell? ⟨g,0,none⟩=some (.int .u8 z0)) (c1:w.cell? ⟨g,1,none⟩=some (.int .u8 z1)) (c2:w.cell? ⟨g,2,none⟩=some (.int .u8 z2)) (c3:w.cell? ⟨g,3,none⟩=some (.int .u8 z3))
 (hr:Hid (r=AQ z0 z1 z2 z3 k)):
 Calls prog 23 #[.slice (some ⟨g,0,none⟩) n c,.int .i64 n,.int .u8 k] w fun e w'=>e=.returned (.bool r)∧w'=w:=by
 by_cases e0:z0=k
 ·by_cases e1:z1=0
  ·by_cases e2:z2=0
   ·by_cases e3:z3=0
    ·have h:r=true:=by rw[hr.out];simp[AQ,e0,e1,e2,e3]
     subst h
     go_enter func23,ntmps23
     go_wp2
     go_ret
     exact⟨by simp,rfl⟩
    ·have h:r=false:=by rw[hr.out];simp[AQ,e3]
     subst h
     go_enter func23,ntmps23
     go_wp2
     go_ret
     exact⟨by simp[e3],rfl⟩
   ·have h:r=false:=by rw[hr.out];simp[AQ,e2]
    subst h
    go_enter func23,ntmps23
    go_wp2
    go_ret
    exact⟨by simp,rfl⟩
  ·have h:r=false:=by rw[hr.out];simp[AQ,e1]
   subst h
   go_enter func23,ntmps23
   go_wp2
   go_ret
   exact⟨by simp,rfl⟩
 ·have h:r=false:=by rw[hr.out];simp[AQ,e0]
  subst h
  go_enter func23,ntmps23
  go_wp2
  go_ret
  exact⟨by simp,rfl⟩
theorem UY (g:Nat) (z:LI) (M:Nat) (k:Int) (t:TypeId) (w:World) (hM:5≤M∧M≤1000) (hz:z.length≤1048576) (c:Nat) (hg:TD w g z):
 Calls prog 23 #[.slice (some ⟨g,0,none⟩) z.length c,.int .i64 M,.int .u8 k] w fun e w'=>e=.returned (.bool (qW z M k))∧w'=w:=by
 by_cases hl:z.length=M
 ·have h:=QY g z.length c _ _ _ _ k _ w (by omega) (by omega) (hg 0 (by omega)) (hg 1 (by omega)) (hg 2 (by omega)) (hg 3 (by omega)) rfl
  have e:qW z M k=AQ (z.getD 0 0) (z.getD 1 0) (z.getD 2 0) (z.getD 3 0) k:=by simp[qW,hl]
  rw[e,←hl]
  exact h
 ·have e:qW z M k=false:=by simp[qW,hl]
  rw[e]
  exact UZ g z.length c M k w (by omega) (by omega) hl
structure Dst where
 g:Nat
 o:Nat
 n:Nat
 c:Nat
 row:List Value
 new:List Value
 t:TypeId
def Dst.val (p:Dst):Value:=.slice (some ⟨p.g,p.o,none⟩) p.n p.c
theorem RS {w:World} {g:Nat} {cs:Array Value} {t:TypeId} (h:w.heap[g]? =some (.cells cs t)) (o:Nat) (v:Value):nE w g (cs.setIfInBounds o v) t (w.setCell ⟨g,o,none⟩ v):=by
 have h1:=nN [v] w g o cs t (0,0) h
 have e:w.setCell ⟨g,o,none⟩ v=w.setRow g (cs.setIfInBounds o v):=h1
 rw[e]
 exact fT h _
theorem agM (r r':Int) (y:LI):(WL r y).toArray.setIfInBounds 0 (.int .u32 r')=(WL r' y).toArray:=by simp[WL]
theorem T7 (r:Int) (y:LI) (N m:Nat) (hy:y.length=N) (hm:m<N):(WL r (bV y N m)).toArray.setIfInBounds (m+1) (.int .u8 (y.getD m 0))=(WL r (bV y N (m+1))).toArray:=by
 have e:(bV y N m).set m (y.getD m 0)=bV y N (m+1):=by
  unfold bV
  have ht:(y.take m).length=m:=by simp;omega
  rw[List.set_append_right _ _ (by omega),ht,Nat.sub_self,show N - m=(N - (m+1))+1 by omega,List.replicate_succ,sY,tQ (show m<y.length by omega),List.append_assoc]
  congr 1
  simp[hy,hm]
 simp only[WL,sU,sJ]
 rw[←e,List.map_set]
structure vO (w0:World) (B g:Nat) (z:LI) (N:Nat) (tz ty:TypeId) (r:Int) (o:Nat) (W:World):Prop where
 src:TD W g z
 res:W.heap[B]? =some (.cells (WL 0 (aA N)).toArray ty)
 str:W.heap[B+1]? =some (.cells (WL r (bV (z.drop 8) N o)).toArray ty)
 bel:Below B w0 W
theorem vO.put {w0:World} {B g:Nat} {z:LI} {N:Nat} {tz ty:TypeId} {r r':Int} {o o':Nat} {W W':World}
 (h:vO w0 B g z N tz ty r o W) (hP:nE W (B+1) (WL r' (bV (z.drop 8) N o')).toArray ty W') (h1:g<B):vO w0 B g z N tz ty r' o' W':=
 ⟨h.src.past hP (by omega),(hP.far _ (by omega)).trans h.res,hP.here,hP.below _ _ h.bel (by omega)⟩
theorem vO.later {w0:World} {B g:Nat} {z:LI} {N:Nat} {tz ty:TypeId} {r:Int} {o:Nat} {W W':World}
 (h:vO w0 B g z N tz ty r o W) (hb:Below W.heap.size W W') (h1:g<B):vO w0 B g z N tz ty r o W':=
 have hl:B+1<W.heap.size:=(Array.getElem?_eq_some_iff.1 h.str).1
 ⟨h.src.later hb (by omega),(hb.block _ (by omega)).trans h.res,(hb.block _ hl).trans h.str,h.bel.trans (hb.mono (by omega))⟩
theorem vO.word {w0:World} {B g:Nat} {z:LI} {N:Nat} {tz ty:TypeId} {r:Int} {o:Nat} {W:World}
 (h:vO w0 B g z N tz ty r o W) (r':Int) (h1:g<B):vO w0 B g z N tz ty r' o (W.setCell ⟨B+1,0,none⟩ (.int .u32 r')):=by
 have hP:=RS h.str 0 (.int .u32 r')
 rw[agM]at hP
 exact h.put hP h1
theorem vO.byte {w0:World} {B g:Nat} {z:LI} {N:Nat} {tz ty:TypeId} {r:Int} {o:Nat} {W:World}
 (h:vO w0 B g z N tz ty r o W) (hz:z.length=N+8) (ho:o<N) (h1:g<B):vO w0 B g z N tz ty r (o+1) (W.setCell ⟨B+1,o+1,none⟩ (.int .u8 (z.getD (8+o) 0))):=by
 have hP:=RS h.str (o+1) (.int .u8 (z.getD (8+o) 0))
 have e:=T7 r (z.drop 8) N o (by simp;omega) ho
 rw[show(z.drop 8).getD o 0=z.getD (8+o) 0 by simp[List.getD_eq_getElem?_getD]]at e
 rw[e]at hP
 exact h.put hP h1
theorem vO.cell {w0:World} {B g:Nat} {z:LI} {N:Nat} {tz ty:TypeId} {r:Int} {o:Nat} {W:World}
 (h:vO w0 B g z N tz ty r o W) (hz:z.length=N+8) (ho:o≤N) (i:Nat) (hi:i<N):∃v,W.cell? ⟨B+1,i+1,none⟩=some (.int .u8 v):=by
 rw[cell_of_row _ _ _ _ _ _ h.str,WH _ _ i (by rw[iB _ N o (by simp;omega) ho];exact hi)]
 exact⟨_,rfl⟩
theorem aaX (z:LI) (o n:Nat):aP z (o+8) n=aP (z.drop 8) o n:=by
 unfold aP
 rw[List.drop_drop,Nat.add_comm]
theorem CW (r:Int) (z:LI) (N o n:Nat) (hz:z.length=N+8) (h:o+n≤N):
 (WL r (bV (z.drop 8) N o)).take (o+1)++(aP z (o+8) n).map (Value.int .u8)++(WL r (bV (z.drop 8) N o)).drop (o+1+((aP z (o+8) n).map (Value.int .u8)).length)=WL r (bV (z.drop 8) N (o+n)):=by
 rw[aaX]
 exact TE r (z.drop 8) N o n (by simp;omega) h
theorem acJ:(prog.info? 35).map (·.size)=some 16:=by kernel_rfl
theorem IV (l:LI) (hl:l.length=16) (g o c:Nat) (w:World) (hg:g<w.heap.size) (hc:∀j,j<16→w.cell? ⟨g,o+j,none⟩=some (.int .u8 (l.getD j 0))):
 Calls prog 26 #[.slice (some ⟨g,o,none⟩) 16 c] w fun e w'=>e=.returned (.agg (Iv .u8 l))∧Below w.heap.size w w':=by
 have hzv:∀W,(zeroValue 35).run prog W=.ok (.agg (Iv .u8 (aA 16))) W:=(zero_of_info (n:=16) (by kernel_rfl)).1
 have hi16:Hid (∀l:LI,l.length=16→(prog.info? 35).map (·.size)=some (Iv .u8 l).size):=fun l hl=>by rw[aD,hl];exact acJ
 have HC:Hid _:=hc
 clear hc
 obtain⟨W,hW,g0,g1,hs,hb⟩:=iU w (.cells (Iv .u8 (aA 16)) 35) (.cells (Iv .u8 (aA 16)) 35)
 have R1:Hid _:=g1
 have R0:Hid _:=g0
 have HB:Hid _:=hb
 clear g0 g1 hb
 go_enter func26,ntmps26
 go_wp2_with(refine wpPr rfl 35 _ _ rfl (w.heap.size+1) (Iv .u8 (aA 16)) rfl rfl _ _ R1.out (hi16.out _ (by simp[aA])) rfl (aG _ _) ?_)
 intro w1 hP1
 have q1:=hP1.here
 have q0:=(hP1.far w.heap.size (by omega)).trans R0.out
 have qB:=hP1.below _ _ HB.out (by omega)
 have qC:∀j,j<16→w1.cell? ⟨g,o+j,none⟩=some (.int .u8 (l.getD j 0)):=fun j hj=>(qB.cell (p:=⟨g,o+j,none⟩) hg).trans (HC.out j hj)
 clear hP1 R1 R0 HB hW HC
 have Z1:Hid _:=q1
 have Z0:Hid _:=q0
 have ZB:Hid _:=qB
 have ZC:Hid _:=qC
 clear q1 q0 qB qC
 go_wp2_with fail
 go_loopw [6] (fun i wr=>∃k:Nat,k≤16∧i=.int .i64 k∧wr.heap[w.heap.size+1]? =some (.cells (Iv .u8 (bV l 16 k)) 35)∧wr.heap[w.heap.size]? =some (.cells (Iv .u8 (aA 16)) 35)∧(∀j,j<16→wr.cell? ⟨g,o+j,none⟩=some (.int .u8 (l.getD j 0)))∧Below w.heap.size w wr) (fun i _=>16 - (intOf i).toNat)
 case atStart=>exact⟨0,Nat.zero_le _,rfl,Z1.out,Z0.out,ZC.out,ZB.out⟩
 case round=>
  obtain⟨k,hk,rfl,q1,q0,qL,qB⟩:=hrel
  by_cases hlt:k<16
  ·have cB:=qL k hlt
   have cO:∃v,wr.cell? ⟨w.heap.size+1,k,none⟩=some v:=by
    rw[cell_of_row _ _ _ _ _ _ q1]
    exact nD _ _ _ (by rw[iB _ _ _ hl (by omega)];omega)
   obtain⟨v,hv⟩:=cO
   have fO:wr.frozen? ⟨w.heap.size+1,k,none⟩=false:=frozen_of_row _ _ _ _ _ q1
   have hgd:l.getD k 0=l[k]:=by rw[List.getD_eq_getElem?_getD,List.getElem?_eq_getElem (by omega)];rfl
   rw[hgd]at cB
   clear hgd
   have Q1:Hid _:=q1
   have Q0:Hid _:=q0
   have QL:Hid _:=qL
   have QB:Hid _:=qB
   clear q1 q0 qL qB Z1 Z0 ZB ZC
   go_wp2
   go_roundw
   case rel=>
    refine⟨k+1,by omega,by go_num,?_,?_,?_,?_⟩
    ·rw[heap_setCell_same _ _ _ _ _ _ Q1.out,bZ]
     unfold bV
     exact congrArg (fun z=>some (Obj.cells (Iv .u8 z) 35)) (wW l 16 k hl hlt 0)
    ·rw[heap_setCell_other _ _ _ _ (by simp)]
     exact Q0.out
    ·intro j hj
     rw[World.cell?_setCell_other _ _ _ _ (by intro e;cases e;omega)]
     exact QL.out j hj
    ·exact QB.out.setCell (p:=⟨w.heap.size+1,k,none⟩) (by show w.heap.size≤w.heap.size+1;omega) _
   case measure=>simp[intOf];omega
  ·obtain rfl:k=16:=by omega
   rw[tI l 16 hl]at q1
   have G2:Hid _:=q1
   have G1:Hid _:=q0
   have GB:Hid _:=qB
   clear q1 q0 qL qB Z1 Z0 ZB ZC
   go_wp2_with(first
    | refine wpLr rfl 35 _ rfl (w.heap.size+1) rfl _ (Iv .u8 l) _ _ G2.out underlying35 rfl (hi16.out l hl) ?_
    | refine wpPr rfl 35 _ _ rfl w.heap.size (Iv .u8 l) rfl rfl _ _ G1.out (hi16.out l hl) ?hs (aG _ _) ?_)
   case hs=>rw[aD,aD,hl];rfl
   intro W9 hP9
   go_wp2
   exact bodyPost_ret (v:=.agg (Iv .u8 l)) (results_cell_row rfl _ _ _ _ (Iv .u8 l) _ _ rfl hP9.here underlying35 rfl (hi16.out l hl)) rfl ⟨rfl,hP9.below _ _ GB.out (nQ _)⟩
theorem QM:(prog.info? 37).map (·.size)=some 141:=by kernel_rfl
theorem IR:(prog.info? 35).map (·.size)=some 16:=by kernel_rfl
theorem UK:(prog.info? 25).map (·.size)=some 32:=by kernel_rfl
theorem adZ:∀W,(zeroValue 37).run prog W=.ok (.agg (WL 0 (aA 140)).toArray) W:=fun W=>by kernel_rfl
theorem tZ (g:Nat) (z:LI) (t:TypeId) (w:World) (hw:qW z 148 1=true) (hb:aC z)
 (c:Nat) (hc1:z.length≤c) (hc2:c≤9223372036854775807) (hg:TD w g z) (hg0:g<w.heap.size):
 Calls prog 13 #[.slice (some ⟨g,0,none⟩) 148 c] w fun e w'=>e=.returned (.tuple #[.agg (WL (aF (aP z 4 4) 0) (z.drop 8)).toArray,.bool true])∧Below w.heap.size w w':=by
 have hzv:=adZ
 have hlen:=UU hw
 have hhead:Hid (∀W,Below w.heap.size w W→Calls prog 23 #[.slice (some ⟨g,0,none⟩) 148 c,.int .i64 148,.int .u8 1] W fun e w'=>e=.returned (.bool true)∧w'=W):=by
  intro W hW
  have h:=UY g z 148 1 t W (by omega) (by omega) c (hg.later hW hg0)
  rw[hw,hlen]at h
  exact h
 have HY:Hid (aC z):=hb
 have HG:Hid (TD w g z):=hg
 have hy:(z.drop 8).length=140:=by simp;omega
 have hp4:=aZ z 4 4 148 hlen (by omega)
 have hpb:Hid (aC (aP z 4 4)):=by
  intro i
  unfold aP
  by_cases hi:i<4
  ·have:=HY.out (4+i)
   simpa[List.getD_eq_getElem?_getD,List.getElem?_take,hi]using this
  ·simp[List.getD_eq_getElem?_getD,List.getElem?_take,hi]
 obtain⟨W0,hW0,k0,k1,hs0,hb0⟩:=iU w (.cells (WL 0 (aA 140)).toArray 37) (.cells (WL 0 (aA 140)).toArray 37)
 have K0:Hid _:=k0
 have K1:Hid _:=k1
 have HB:Hid _:=hb0
 have hil:Hid ((prog.info? 37).map (·.size)=some (WL 0 (aA 140)).toArray.size):=by show _=_;rw[nF];exact QM
 go_enter func13,ntmps13
 go_wp2_with(refine wpPr rfl 37 _ _ rfl (w.heap.size+1) (WL 0 (aA 140)).toArray rfl rfl _ _ K1.out hil.out rfl (uI _ _) ?_)
 intro W1 hP1
 have HC1:Hid (vO w w.heap.size g z 140 t 37 0 0 W1):=by
  have h1:=hP1.here
  rw[show WL 0 (aA 140)=WL 0 (bV (z.drop 8) 140 0)from abK 0 (z.drop 8) 140]at h1
  exact⟨(HG.out.later HB.out hg0).past hP1 (by omega),(hP1.far _ (by omega)).trans K0.out,h1,hP1.below _ _ HB.out (by omega)⟩
 go_wp2_with fail
 refine(hhead.out _ HC1.out.bel).mono ?_
 rintro e W1 ⟨rfl,rfl⟩
 clear hhead
 go_wp2_with fail
 refine(yC (aP z 4 4) 4 1 hp4 hpb.out (by omega) (by omega) (some ⟨g,4,none⟩) (c - 4) W1 ?hrd).mono ?_
 case hrd=>
  intro i hi
  refine⟨g,4,rfl,?_⟩
  rw[hp4]at hi
  rw[HC1.out.src (4+i) (by omega)]
  simp[aP,hi]
 rintro e w2 ⟨v,rfl,hown,hb2⟩
 obtain⟨av,nv,cv,rfl,hnv,hrd⟩:=hown.rdk
 obtain⟨bv,ov,rfl,hcv⟩:=hrd 0 (by simp[kH])
 obtain rfl:nv=1:=by rw[hnv,kH]
 have hcw:w2.cell? ⟨bv,ov,none⟩=some (.int .u32 (aF (aP z 4 4) 0)):=hcv
 have hC2:=HC1.out.later hb2 hg0
 have c2:w2.cell? ⟨w.heap.size+1,0,none⟩=some (.int .u32 0):=by rw[cell_of_row _ _ _ _ _ _ hC2.str];exact WI _ _
 have f2:w2.frozen? ⟨w.heap.size+1,0,none⟩=false:=frozen_of_row _ _ _ _ _ hC2.str
 have HC2:Hid _:=hC2
 obtain⟨r,hr⟩:∃r,r=aF (aP z 4 4) 0:=⟨_,rfl⟩
 have HRW:Hid _:=hr
 rw[←hr]at hcw
 clear hown hnv hrd hcv hb2 hC2 HC1 hr
 go_wp2_with fail
 have HCC:Hid _:=HC2.out.word r hg0
 have hl0:=aZ z 8 32 148 hlen (by omega)
 have hgl0:=nJ hg0 HCC.out.bel.size
 refine(uU (aP z 8 32) hl0 g 8 _ _ hgl0 (fun j hj=>by rw[HCC.out.src (8+j) (by omega)];simp[aP,hj])).mono ?_
 rintro e w0b ⟨rfl,hb0⟩
 have HD0:Hid _:=HCC.out.later hb0 hg0
 have hst0:Hid _:=HD0.out.str
 have hi0:Hid ((prog.info? 25).map (·.size)=some ((aP z 8 32).map (Value.int .u8)).length):=by show _=_;rw[lU,hl0];exact UK
 have hf0:Hid (1+((aP z 8 32).map (Value.int .u8)).length≤(WL r (bV (z.drop 8) 140 0)).length):=by show _≤_;rw[lU,hl0,kT,iB _ 140 0 hy (by omega)];omega
 have hn0:Hid _:=CW r z 140 0 32 (by omega) (by omega)
 go_wp2_with(refine wpPp rfl 25 _ _ rfl (w.heap.size+1) 1 ((aP z 8 32).map (Value.int .u8)) rfl rfl (WL r (bV (z.drop 8) 140 0)) 37 hst0.out (WL r (bV (z.drop 8) 140 32)) hi0.out hf0.out (JF _) hn0.out ?_)
 intro w0c hP0
 have HCC:Hid _:=HD0.out.put hP0 hg0
 go_wp2_with fail
 have HC1a:Hid _:=HCC
 go_loopw [22] (fun i wr=>∃k:Nat,k≤48∧i=.int .i64 k∧vO w w.heap.size g z 140 t 37 r (32+k) wr) (fun i _=>48 - (intOf i).toNat)
 case atStart=>exact⟨0,Nat.zero_le _,rfl,HC1a.out⟩
 case round=>
  obtain⟨k,hk,rfl,hCk⟩:=hrel
  clear HC1a
  rcases Nat.lt_or_ge k 48 with hlt|hge
  ·have cs:wr.cell? ⟨g,40+k,none⟩=some (.int .u8 (z.getD (8+(32+k)) 0)):=by
    rw[hCk.src (40+k) (by omega),show 40+k=8+(32+k) by omega]
   obtain⟨v,cd⟩:=hCk.cell (by omega) (by omega) (32+k) (by omega)
   have fd:wr.frozen? ⟨w.heap.size+1,32+k+1,none⟩=false:=frozen_of_row _ _ _ _ _ hCk.str
   rw[show 32+k+1=33+k by omega]at cd fd
   have hn:=hCk.byte (by omega) (by omega) hg0
   rw[show 32+k+1=33+k by omega]at hn
   have HN:Hid _:=hn
   generalize z.getD (8+(32+k)) 0=v8 at*
   go_wp2
   go_roundw
   case rel=>exact⟨k+1,by omega,by go_num,by rw[show 32+(k+1)=33+k by omega];exact HN.out⟩
   case measure=>simp[intOf];omega
  obtain rfl:k=48:=by omega
  have HCC:Hid _:=hCk
  go_wp2_with fail
  have HC2a:Hid _:=HCC
  go_loopw [34] (fun i wr=>∃k:Nat,k≤28∧i=.int .i64 k∧vO w w.heap.size g z 140 t 37 r (80+k) wr) (fun i _=>28 - (intOf i).toNat)
  case atStart=>exact⟨0,Nat.zero_le _,rfl,HC2a.out⟩
  case round=>
   obtain⟨k,hk,rfl,hCk⟩:=hrel
   clear HC2a
   rcases Nat.lt_or_ge k 28 with hlt|hge
   ·have cs:wr.cell? ⟨g,88+k,none⟩=some (.int .u8 (z.getD (8+(80+k)) 0)):=by
     rw[hCk.src (88+k) (by omega),show 88+k=8+(80+k) by omega]
    obtain⟨v,cd⟩:=hCk.cell (by omega) (by omega) (80+k) (by omega)
    have fd:wr.frozen? ⟨w.heap.size+1,80+k+1,none⟩=false:=frozen_of_row _ _ _ _ _ hCk.str
    rw[show 80+k+1=81+k by omega]at cd fd
    have hn:=hCk.byte (by omega) (by omega) hg0
    rw[show 80+k+1=81+k by omega]at hn
    have HN:Hid _:=hn
    generalize z.getD (8+(80+k)) 0=v8 at*
    go_wp2
    go_roundw
    case rel=>exact⟨k+1,by omega,by go_num,by rw[show 80+(k+1)=81+k by omega];exact HN.out⟩
    case measure=>simp[intOf];omega
   obtain rfl:k=28:=by omega
   have HCC:Hid _:=hCk
   go_wp2_with fail
   have hl3:=aZ z 116 16 148 hlen (by omega)
   have hgl3:=nJ hg0 HCC.out.bel.size
   refine(IV (aP z 116 16) hl3 g 116 _ _ hgl3 (fun j hj=>by rw[HCC.out.src (116+j) (by omega)];simp[aP,hj])).mono ?_
   rintro e w3b ⟨rfl,hb3⟩
   have HD3:Hid _:=HCC.out.later hb3 hg0
   have hst3:Hid _:=HD3.out.str
   have hi3:Hid ((prog.info? 35).map (·.size)=some ((aP z 116 16).map (Value.int .u8)).length):=by show _=_;rw[lU,hl3];exact IR
   have hf3:Hid (109+((aP z 116 16).map (Value.int .u8)).length≤(WL r (bV (z.drop 8) 140 108)).length):=by show _≤_;rw[lU,hl3,kT,iB _ 140 108 hy (by omega)];omega
   have hn3:Hid _:=CW r z 140 108 16 (by omega) (by omega)
   go_wp2_with(refine wpPp rfl 35 _ _ rfl (w.heap.size+1) 109 ((aP z 116 16).map (Value.int .u8)) rfl rfl (WL r (bV (z.drop 8) 140 108)) 37 hst3.out (WL r (bV (z.drop 8) 140 124)) hi3.out hf3.out (JF _) hn3.out ?_)
   intro w3c hP3
   have HCC:Hid _:=HD3.out.put hP3 hg0
   go_wp2_with fail
   have hl4:=aZ z 132 16 148 hlen (by omega)
   have hgl4:=nJ hg0 HCC.out.bel.size
   refine(IV (aP z 132 16) hl4 g 132 _ _ hgl4 (fun j hj=>by rw[HCC.out.src (132+j) (by omega)];simp[aP,hj])).mono ?_
   rintro e w4b ⟨rfl,hb4⟩
   have HD4:Hid _:=HCC.out.later hb4 hg0
   have hst4:Hid _:=HD4.out.str
   have hi4:Hid ((prog.info? 35).map (·.size)=some ((aP z 132 16).map (Value.int .u8)).length):=by show _=_;rw[lU,hl4];exact IR
   have hf4:Hid (125+((aP z 132 16).map (Value.int .u8)).length≤(WL r (bV (z.drop 8) 140 124)).length):=by show _≤_;rw[lU,hl4,kT,iB _ 140 124 hy (by omega)];omega
   have hn4:Hid _:=CW r z 140 124 16 (by omega) (by omega)
   go_wp2_with(refine wpPp rfl 35 _ _ rfl (w.heap.size+1) 125 ((aP z 132 16).map (Value.int .u8)) rfl rfl (WL r (bV (z.drop 8) 140 124)) 37 hst4.out (WL r (bV (z.drop 8) 140 140)) hi4.out hf4.out (JF _) hn4.out ?_)
   intro w4c hP4
   have HCC:Hid _:=HD4.out.put hP4 hg0
   have hil:Hid ((prog.info? 37).map (·.size)=some (WL r (z.drop 8)).toArray.size):=by show _=_;rw[nF,hy];exact QM
   have hiz:Hid ((WL 0 (aA 140)).toArray.size=(WL r (z.drop 8)).toArray.size):=by show _=_;rw[nF,nF,hy];simp[aA]
   have hstr:=HCC.out.str
   rw[tI _ 140 hy]at hstr
   have S8:Hid _:=hstr
   have R8:Hid _:=HCC.out.res
   have B8:Hid _:=HCC.out.bel
   go_wp2_with(first
    | refine wpLr rfl 37 _ rfl (w.heap.size+1) rfl _ (WL r (z.drop 8)).toArray _ _ S8.out underlying37 rfl hil.out ?_
    | refine wpPr rfl 37 _ _ rfl w.heap.size (WL r (z.drop 8)).toArray rfl rfl _ _ R8.out hil.out hiz.out (uI _ _) ?_)
   intro W9 hP9
   go_wp2
   exact bodyPost_ret (v:=.tuple #[.agg (WL r (z.drop 8)).toArray,.bool true]) (DH rfl _ _ _ _ (WL r (z.drop 8)).toArray _ _ _ rfl rfl hP9.here underlying37 rfl hil.out) rfl ⟨by rw[HRW.out],hP9.below _ _ B8.out (nQ _)⟩
theorem lN {W:World} {b o:Nat} {t:TypeId} {fr:Nat×Nat} {A B C:List Value} (hr:W.heap[b]? =some (.cells (A++(B++C)).toArray t fr)) (hA:A.length=o):W.rangeAt b o B:=by
 subst hA
 have h:=gZ hr A.length B.length
 rwa[List.drop_left,List.take_left]at h
section
variable {W:World} {b:Nat} {t:TypeId} {fr:Nat×Nat} {s k who m:Int} {z st c h:LI}
theorem ag5 (hr:W.heap[b]? =some (.cells (rV s z c h k m).toArray t fr)):W.rangeAt b 0 (WL s z):=lN (A:=[]) hr rfl
theorem ak7 (hr:W.heap[b]? =some (.cells (rV s z c h k m).toArray t fr)) (hz:z.length=140):W.rangeAt b 141 (dP c):=lN hr (by rw[kT,hz])
theorem ak8 (hr:W.heap[b]? =some (.cells (rV s z c h k m).toArray t fr)) (hz:z.length=140) (hc:c.length=32):W.rangeAt b 173 (dP h):=lN (A:=WL s z++dP c) (C:=_) (by rw[List.append_assoc];exact hr) (by rw[lQ,kT,hz,aL,hc])
theorem ajD (hr:W.heap[b]? =some (.cells (rV s z c h k m).toArray t fr)) (hz:z.length=140) (hc:c.length=32) (hh:h.length=32):W.rangeAt b 205 [.int .i64 k,.int .i64 m]:=lN (A:=WL s z++(dP c++dP h)) (C:=[]) (by rw[List.append_assoc,List.append_assoc];exact hr) (by rw[lQ,lQ,kT,hz,aL,hc,aL,hh])
theorem ag4 (hr:W.heap[b]? =some (.cells (mZ k who st c h m).toArray t fr)):W.rangeAt b 0 [.int .i64 k,.int .i64 who]:=lN (A:=[]) (B:=[.int .i64 k,.int .i64 who]) hr rfl
theorem ak6 (hr:W.heap[b]? =some (.cells (mZ k who st c h m).toArray t fr)):W.rangeAt b 2 (dP st):=lN (A:=[.int .i64 k,.int .i64 who]) hr rfl
theorem ak4 (hr:W.heap[b]? =some (.cells (mZ k who st c h m).toArray t fr)) (hs:st.length=12):W.rangeAt b 14 (dP c):=lN (A:=[.int .i64 k,.int .i64 who]++dP st) (C:=_) (by rw[List.append_assoc];exact hr) (by rw[lQ,aL,hs];rfl)
theorem ak5 (hr:W.heap[b]? =some (.cells (mZ k who st c h m).toArray t fr)) (hs:st.length=12) (hc:c.length=32):W.rangeAt b 46 (dP h):=lN (A:=[.int .i64 k,.int .i64 who]++(dP st++dP c)) (C:=_) (by rw[List.append_assoc,List.append_assoc];exact hr) (by rw[lQ,lQ,aL,aL,hs,hc];rfl)
theorem ajC (hr:W.heap[b]? =some (.cells (mZ k who st c h m).toArray t fr)) (hs:st.length=12) (hc:c.length=32) (hh:h.length=32):W.rangeAt b 78 [.int .i64 m]:=lN (A:=[.int .i64 k,.int .i64 who]++(dP st++(dP c++dP h))) (C:=[]) (by rw[List.append_assoc,List.append_assoc,List.append_assoc];exact hr) (by rw[lQ,lQ,lQ,aL,aL,aL,hs,hc,hh];rfl)
end
theorem Q8 {α β:Type} (f:α→Option β):∀xs:List α,(∀x∈xs,∃y,f x=some y)→∃ys,xs.mapM f=some ys
 | [],_=>⟨[],rfl⟩
 | x::xs,h=>by
   obtain⟨y,hy⟩:=h x mQ
   obtain⟨ys,hys⟩:=Q8 f xs (fun z hz=>h z (mC _ hz))
   exact⟨y::ys,by rw[List.mapM_cons,hy,hys];rfl⟩
theorem Q7 {α β:Type} (f:α→Option (List β)) (xs:List α) (h:∀x∈xs,∃y,f x=some y):∃ys,(xs.mapM f).map List.flatten=some ys:=by
 obtain⟨ys,hys⟩:=Q8 f xs h
 exact⟨ys.flatten,by rw[hys];rfl⟩
theorem I3 (d:Nat) (t:TypeId) (n:Nat) (hu:prog.underlying t=some (.array n 5)) (hc:prog.cellsOf t=n) (l:LI) (hl:l.length=n) (hb:aC l):∃x,prog.keyLits (d+2) t (dP l)=some x:=by
 have h1:prog.cellsOf 5=1:=by kernel_rfl
 unfold Program.keyLits
 rw[hu]
 simp only[aL,hl,hc,if_true,h1,Nat.mul_one]
 refine Q7 _ _ (fun i hi=>?_)
 have hi':i<l.length:=by rw[hl];exact List.mem_range.1 hi
 have e:((dP l).drop i).take 1=[Value.int .u8 (l.getD i 0)]:=by
  rw[List.drop_eq_getElem_cons (by simpa using hi')]
  simp[List.getD_eq_getElem?_getD,hi']
 have hw:=hb i
 refine⟨[.int .u8 (l.getD i 0)],?_⟩
 simp only[e]
 unfold Program.keyLits
 rw[underlying5]
 generalize l.getD i 0=y at*
 have hwf:(Lit.int .u8 y).wf=true:=by
  have e1:IntKind.u8.min=0:=by decide
  have e2:IntKind.u8.max=255:=by decide
  simp[Lit.wf,e1,e2]
  omega
 simp only[hwf,and_self,if_true]
theorem I0 (d:Nat) (r:Int) (hr:0≤r∧r≤100):∃x,prog.keyLits (d+1) 3 [.int .i64 r]=some x:=by
 refine⟨[.int .i64 r],?_⟩
 unfold Program.keyLits
 rw[underlying3]
 have hwf:(Lit.int .i64 r).wf=true:=by
  have e1:IntKind.i64.min= -9223372036854775808:=by decide
  have e2:IntKind.i64.max=9223372036854775807:=by decide
  simp[Lit.wf,e1,e2]
  omega
 simp only[hwf,and_self,if_true]
theorem OK {A B C L:List Value} (e:L=A++(B++C)) (o n:Nat) (hA:A.length=o) (hB:B.length=n):(L.drop o).take n=B:=by
 subst e hA hB
 rw[List.drop_left,List.take_left]
theorem akZ {k who m:Int} {st c h:LI} (hs:st.length=12) (hc:c.length=32) (hh:h.length=32) (bs:aC st) (bc:aC c) (bh:aC h) (hk:0≤k∧k≤100) (hw:0≤who∧who≤100) (hm:0≤m∧m≤100) (w:World):(Op.equalIn 10000 44 (.agg (mZ k who st c h m).toArray) (.agg (mZ k who st c h m).toArray)).run prog w=.ok true w:=by
 have hq:prog.keyTypeAt 4 44=true:=by kernel_rfl
 have hl:=FZ k who st c h m hs hc hh
 have c12:prog.cellsOf 30=12:=by kernel_rfl
 have c32:prog.cellsOf 25=32:=by kernel_rfl
 have c1:prog.cellsOf 3=1:=by kernel_rfl
 have hx:∃x,prog.keyLits 4 44 (mZ k who st c h m)=some x:=by
  unfold Program.keyLits
  rw[underlying44]
  simp only
  rw[if_pos ⟨by rw[hl];kernel_rfl,by kernel_rfl⟩]
  refine Q7 _ _ (fun f hf=>?_)
  simp only[List.mem_cons,nY,or_false]at hf
  have e4:mZ k who st c h m=([.int .i64 k,.int .i64 who]++(dP st++dP c))++(dP h++[.int .i64 m]):=by simp[mZ]
  have e5:mZ k who st c h m=([.int .i64 k,.int .i64 who]++(dP st++(dP c++dP h)))++([.int .i64 m]++[]):=by simp[mZ]
  have e3:mZ k who st c h m=([.int .i64 k,.int .i64 who]++dP st)++(dP c++(dP h++[.int .i64 m])):=by simp[mZ]
  rcases hf with rfl|rfl|rfl|rfl|rfl|rfl
  ·exact I0 2 k hk
  ·exact I0 2 who hw
  ·simp only[c12]
   rw[OK (show mZ k who st c h m=[.int .i64 k,.int .i64 who]++(dP st++_)from rfl) 2 12 rfl (by rw[aL,hs])]
   exact I3 1 _ 12 underlying30 c12 st hs bs
  ·simp only[c32]
   rw[OK e3 14 32 (by simp[hs]) (by rw[aL,hc])]
   exact I3 1 _ 32 underlying25 c32 c hc bc
  ·simp only[c32]
   rw[OK e4 46 32 (by simp[hs,hc]) (by rw[aL,hh])]
   exact I3 1 _ 32 underlying25 c32 h hh bh
  ·simp only[c1]
   rw[OK e5 78 1 (by simp[hs,hc,hh]) rfl]
   exact I0 2 m hm
 obtain⟨x,hx⟩:=hx
 have hf:(Value.agg (mZ k who st c h m).toArray).formed prog 44=true:=by
  have hz:prog.cellsOf 44=79:=by kernel_rfl
  unfold Value.formed
  rw[underlying44]
  simp only[List.size_toArray,hl,hz]
  rfl
 have hx':prog.keyLits 4 44 (Value.agg (mZ k who st c h m).toArray).cells.toList=some x:=hx
 obtain⟨b,h1,h2⟩:=run_equalIn_deep (P:=prog) 9996 4 44 hq w 4 4 _ _ _ _ hf hf hx' hx'
 rw[h2.2 rfl]at h1
 exact h1
end Go.Proofs.YtmjccemdldidaaaGreatDoor
