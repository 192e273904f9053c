import Derived.Test.YtmjccemdldidaaaGreatDoorMH00
namespace Go.Proofs.YtmjccemdldidaaaGreatDoor
open Go.RowKit
open List renaming mem_append → mY, mem_cons_of_mem → mC, mem_cons_self → mQ
open Nat renaming le_refl → nQ
set_option linter.unusedVariables false
structure Rn (w0:World) (R:List (Nat×Array Value×TypeId)) (W:World):Prop where
 rw:Rw w0 R W
 nd:(R.map Prod.fst).Nodup
section
variable {w0:World} {R R1 R2:List (Nat×Array Value×TypeId)} {W W':World}
theorem Rn.start (w0:World):Rn w0 [] w0:=⟨Rw.start w0,List.nodup_nil⟩
theorem Rn.bel (h:Rn w0 R W):Below w0.heap.size w0 W:=h.rw.bel
theorem Rn.at (h:Rn w0 R W) {b:Nat} {cs:Array Value} {t:TypeId} (hr:(b,cs,t)∈R):W.heap[b]? =some (.cells cs t):=(h.rw.row _ hr).2.2
theorem Rn.later {B:Nat} (h:Rn w0 R W) (hb:Below B W W') (hB:W.heap.size≤B):Rn w0 R W':=⟨h.rw.later hb hB,h.nd⟩
theorem Rn.drew (h:Rn w0 R W):Rn w0 R W.drew:=⟨h.rw.drew,h.nd⟩
theorem Rn.alloc (h:Rn w0 R W) (cs:Array Value) (t:TypeId):Rn w0 ((W.heap.size,cs,t)::R) (W.alloc (.cells cs t)):=by
 refine⟨h.rw.alloc cs t,?_⟩
 rw[List.map_cons,List.nodup_cons]
 refine⟨fun hm=>?_,h.nd⟩
 obtain⟨r,hr,e⟩:=List.mem_map.1 hm
 have h1:=(h.rw.row r hr).2.1
 rw[e]at h1
 exact Nat.lt_irrefl _ h1
theorem Rn.alloc' (h:Rn w0 R W) (n:Nat) (hn:W.heap.size=n) (cs:Array Value) (t:TypeId):Rn w0 ((n,cs,t)::R) (W.alloc (.cells cs t)):=hn▸h.alloc cs t
theorem Rn.putK {b:Nat} {cs cs':Array Value} {t:TypeId} (h:Rn w0 (R1++(b,cs,t)::R2) W) (hP:nE W b cs' t W'):Rn w0 (R1++(b,cs',t)::R2) W':=by
 have hn:=h.nd
 rw[List.map_append,List.map_cons,List.nodup_append]at hn
 obtain⟨n1,n2,n3⟩:=hn
 rw[List.nodup_cons]at n2
 have h0:=h.rw.row (b,cs,t) (List.mem_append_right _ mQ)
 refine⟨⟨hP.below _ _ h.rw.bel h0.1,fun r hr=>?_⟩,?_⟩
 ·by_cases hr0:r=(b,cs',t)
  ·subst hr0
   exact⟨h0.1,by rw[hP.size];exact h0.2.1,hP.here⟩
  ·have hr1:r∈R1∨r∈R2:=by
    rcases mY.1 hr with h1|h1
    ·exact .inl h1
    ·rcases List.mem_cons.1 h1 with h2|h2
     ·exact absurd h2 hr0
     ·exact .inr h2
   have hne:r.1≠b:=by
    rcases hr1 with h1|h1
    ·exact n3 _ (List.mem_map_of_mem h1) _ mQ
    ·exact fun e=>n2.1 (by have h9:=List.mem_map_of_mem (f:=Prod.fst) h1;rw[e]at h9;exact h9)
   have h2:=h.rw.row r (by rcases hr1 with h1|h1;exact List.mem_append_left _ h1;exact List.mem_append_right _ (mC _ h1))
   exact⟨h2.1,by rw[hP.size];exact h2.2.1,(hP.far _ hne).trans h2.2.2⟩
 ·have:=h.nd
  rw[List.map_append,List.map_cons]at this⊢
  exact this
theorem Rn.put {b:Nat} {cs cs':Array Value} {t:TypeId} (h:Rn w0 ((b,cs,t)::R) W) (hP:nE W b cs' t W'):Rn w0 ((b,cs',t)::R) W':=Rn.putK (R1:=[]) h hP
theorem Rn.put0 {b:Nat} {cs cs':Array Value} {t:TypeId} (h:Rn w0 ((b,cs,t)::R) W) (hP:nE W b cs' t W'):Rn w0 ((b,cs',t)::R) W':=Rn.putK (R1:=[]) h hP
theorem Rn.put1 {r0:Nat×Array Value×TypeId} {b:Nat} {cs cs':Array Value} {t:TypeId} (h:Rn w0 (r0::(b,cs,t)::R) W) (hP:nE W b cs' t W'):Rn w0 (r0::(b,cs',t)::R) W':=Rn.putK (R1:=[r0]) h hP
theorem Rn.put2 {r0 r1:Nat×Array Value×TypeId} {b:Nat} {cs cs':Array Value} {t:TypeId} (h:Rn w0 (r0::r1::(b,cs,t)::R) W) (hP:nE W b cs' t W'):Rn w0 (r0::r1::(b,cs',t)::R) W':=Rn.putK (R1:=[r0,r1]) h hP
theorem Rn.put4 {r0 r1 r2 r3:Nat×Array Value×TypeId} {b:Nat} {cs cs':Array Value} {t:TypeId} (h:Rn w0 (r0::r1::r2::r3::(b,cs,t)::R) W) (hP:nE W b cs' t W'):Rn w0 (r0::r1::r2::r3::(b,cs',t)::R) W':=Rn.putK (R1:=[r0,r1,r2,r3]) h hP
theorem Rn.put11 {r0 r1 r2 r3 r4 r5 r6 r7 r8 r9 r10:Nat×Array Value×TypeId} {b:Nat} {cs cs':Array Value} {t:TypeId} (h:Rn w0 (r0::r1::r2::r3::r4::r5::r6::r7::r8::r9::r10::(b,cs,t)::R) W) (hP:nE W b cs' t W'):Rn w0 (r0::r1::r2::r3::r4::r5::r6::r7::r8::r9::r10::(b,cs',t)::R) W':=Rn.putK (R1:=[r0,r1,r2,r3,r4,r5,r6,r7,r8,r9,r10]) h hP
theorem Rn.put12 {r0 r1 r2 r3 r4 r5 r6 r7 r8 r9 r10 r11:Nat×Array Value×TypeId} {b:Nat} {cs cs':Array Value} {t:TypeId} (h:Rn w0 (r0::r1::r2::r3::r4::r5::r6::r7::r8::r9::r10::r11::(b,cs,t)::R) W) (hP:nE W b cs' t W'):Rn w0 (r0::r1::r2::r3::r4::r5::r6::r7::r8::r9::r10::r11::(b,cs',t)::R) W':=Rn.putK (R1:=[r0,r1,r2,r3,r4,r5,r6,r7,r8,r9,r10,r11]) h hP
theorem Rn.put13 {r0 r1 r2 r3 r4 r5 r6 r7 r8 r9 r10 r11 RU:Nat×Array Value×TypeId} {b:Nat} {cs cs':Array Value} {t:TypeId} (h:Rn w0 (r0::r1::r2::r3::r4::r5::r6::r7::r8::r9::r10::r11::RU::(b,cs,t)::R) W) (hP:nE W b cs' t W'):Rn w0 (r0::r1::r2::r3::r4::r5::r6::r7::r8::r9::r10::r11::RU::(b,cs',t)::R) W':=Rn.putK (R1:=[r0,r1,r2,r3,r4,r5,r6,r7,r8,r9,r10,r11,RU]) h hP
theorem Rn.put14 {r0 r1 r2 r3 r4 r5 r6 r7 r8 r9 r10 r11 RU r13:Nat×Array Value×TypeId} {b:Nat} {cs cs':Array Value} {t:TypeId} (h:Rn w0 (r0::r1::r2::r3::r4::r5::r6::r7::r8::r9::r10::r11::RU::r13::(b,cs,t)::R) W) (hP:nE W b cs' t W'):Rn w0 (r0::r1::r2::r3::r4::r5::r6::r7::r8::r9::r10::r11::RU::r13::(b,cs',t)::R) W':=Rn.putK (R1:=[r0,r1,r2,r3,r4,r5,r6,r7,r8,r9,r10,r11,RU,r13]) h hP
theorem Rn.newRow {cs cs':Array Value} {t:TypeId} (h:Rn w0 R W) (hP:nE (W.alloc (.cells cs t)) W.heap.size cs' t W'):Rn w0 ((W.heap.size,cs',t)::R) W':=(h.alloc cs t).put hP
theorem Rn.sub {R':List (Nat×Array Value×TypeId)} (h:Rn w0 R W) (hs:R'.Sublist R):Rn w0 R' W:=⟨h.rw.sub (fun r hr=>hs.subset hr),h.nd.sublist (hs.map _)⟩
theorem Rn.tail {r:Nat×Array Value×TypeId} (h:Rn w0 (r::R) W):Rn w0 R W:=h.sub (List.sublist_cons_self _ _)
theorem Rn.two {b c:Nat×Array Value×TypeId} (h:Rn w0 (b::c::R) W):Rn w0 (c::b::R) W:=by
 refine⟨h.rw.sub (fun r hr=>?_),?_⟩
 ·rcases List.mem_cons.1 hr with rfl|hr
  ·exact mC _ mQ
  ·rcases List.mem_cons.1 hr with rfl|hr
   ·exact mQ
   ·exact mC _ (mC _ hr)
 ·have:=h.nd
  simp only[List.map_cons,List.nodup_cons,List.mem_cons,not_or]at this⊢
  exact⟨⟨fun e=>this.1.1 e.symm,this.2.1⟩,this.1.2,this.2.2⟩
end
section
variable {P:Program} {ops:Array Oper} {Q:Exit→Act→World→Prop} {S1:World→Prop} {a:Act} {w:World} {r r1 r2 r3 T0:Tr} {k k1 k2 k3:Nat} {ks:List Nat}
theorem wTh (h:wpQuiet P ops S1 (fun a'=>bR P ops Q S1 r a' w) (bP ops ks) a):bR P ops Q S1 (.held ks r) a w:=h
theorem wTt (h:wpList P ops (dX (fun a' w'=>S1 w'∧bR P ops Q S1 r a' w') Q) (bP ops [k]) a w):bR P ops Q S1 (.tail k r) a w:=h
theorem wTl (h:wpList P ops (dX (fun a' w'=>bR P ops Q S1 r a' w') Q) (bP ops [k]) a w):bR P ops Q S1 (.last k r) a w:=h
theorem wTf (h1:wpList P ops (dX (fun a' w'=>S1 w'∧bR P ops Q S1 r1 a' w') Q) (bP ops [k1]) a w) (h2:wpList P ops (dX (fun a' w'=>S1 w'∧bR P ops Q S1 r2 a' w') Q) (bP ops [k2]) a w):bR P ops Q S1 (.fork k1 r1 k2 r2) a w:=⟨h1,h2⟩
theorem wTf3 (h1:wpList P ops (dX (fun a' w'=>S1 w'∧bR P ops Q S1 r1 a' w') Q) (bP ops [k1]) a w) (h2:wpList P ops (dX (fun a' w'=>S1 w'∧bR P ops Q S1 r2 a' w') Q) (bP ops [k2]) a w) (h3:wpList P ops (dX (fun a' w'=>S1 w'∧bR P ops Q S1 r3 a' w') Q) (bP ops [k3]) a w):bR P ops Q S1 (.fork3 k1 r1 k2 r2 k3 r3) a w:=⟨h1,h2,h3⟩
theorem aQ (h:Q .normal a w):dX (fun a' w'=>bR P ops (zZ Q) S1 .done a' w') (zZ Q) Exit.normal a w:=h
theorem JK (T:Tr) (Fa:World→Prop) (F:Act) (hm:Hid (∀w',Fa w'→bR P ops Q S1 T F w')→bR P ops Q S1 T0 a w) (hc:∀w',Fa w'→bR P ops Q S1 T F w'):bR P ops Q S1 T0 a w:=hm hc
theorem cT (T:Tr) (Fa:Nat→World→Prop) (F:Nat→Act) (hm:Hid (∀c w',Fa c w'→bR P ops Q S1 T (F c) w')→bR P ops Q S1 T0 a w) (hc:∀c w',Fa c w'→bR P ops Q S1 T (F c) w'):bR P ops Q S1 T0 a w:=hm hc
theorem pQ (T:Tr) (Fa:Nat→Nat→World→Prop) (F:Nat→Nat→Act) (hm:Hid (∀c d w',Fa c d w'→bR P ops Q S1 T (F c d) w')→bR P ops Q S1 T0 a w) (hc:∀c d w',Fa c d w'→bR P ops Q S1 T (F c d) w'):bR P ops Q S1 T0 a w:=hm hc
theorem qI {A B C:Type} (T:Tr) (Fa:A→B→C→World→Prop) (F:A→B→C→Act) (hm:Hid (∀c d e w',Fa c d e w'→bR P ops Q S1 T (F c d e) w')→bR P ops Q S1 T0 a w) (hc:∀c d e w',Fa c d e w'→bR P ops Q S1 T (F c d e) w'):bR P ops Q S1 T0 a w:=hm hc
theorem oR {A B C D:Type} (T:Tr) (Fa:A→B→C→D→World→Prop) (F:A→B→C→D→Act) (hm:Hid (∀c d e f w',Fa c d e f w'→bR P ops Q S1 T (F c d e f) w')→bR P ops Q S1 T0 a w) (hc:∀c d e f w',Fa c d e f w'→bR P ops Q S1 T (F c d e f) w'):bR P ops Q S1 T0 a w:=hm hc
theorem DT {f:FuncId} {args:Array Value} {x:Value} {k:Nat} {o:Oper} {r:Tr} {w0:World} {R:List (Nat×Array Value×TypeId)} (C:Calls P f args w fun e w'=>e=.returned x∧Below w.heap.size w w') (H:Hid (Rn w0 R w)) (ho:bP ops [k]=[o]) (hg:o.guard=none) (he:(execOp a.eval o).run P w=.ok (.enter f args) w) (hS:∀v,Rn w0 R v→S1 v) (hn:∀v,Rn w0 R v→bR P ops Q S1 r (a.put o.dst x) v):wpList P ops (dX (fun a' w'=>S1 w'∧bR P ops Q S1 r a' w') Q) (bP ops [k]) a w:=by
 rw[ho]
 refine wpList_plain hg fun K hK=>?_
 unfold Oper.wp
 rw[he,Oper.upon_enter]
 refine C.mono fun e w2 hh=>?_
 obtain⟨rfl,hb⟩:=hh
 have h1:=H.out.later hb (nQ _)
 exact hK _ _ ⟨hS _ h1,hn _ h1⟩
theorem GL {f:FuncId} {args:Array Value} {Y:Value→Prop} {k:Nat} {o:Oper} {r:Tr} {w0:World} {R:List (Nat×Array Value×TypeId)} (C:Calls P f args w fun e w'=>∃y,e=.returned y∧Y y∧Below w.heap.size w w') (H:Hid (Rn w0 R w)) (ho:bP ops [k]=[o]) (hg:o.guard=none) (he:(execOp a.eval o).run P w=.ok (.enter f args) w) (hS:∀v,Rn w0 R v→S1 v) (hn:∀y v,Y y→Rn w0 R v→bR P ops Q S1 r (a.put o.dst y) v):wpList P ops (dX (fun a' w'=>S1 w'∧bR P ops Q S1 r a' w') Q) (bP ops [k]) a w:=by
 rw[ho]
 refine wpList_plain hg fun K hK=>?_
 unfold Oper.wp
 rw[he,Oper.upon_enter]
 refine C.mono fun e w2 hh=>?_
 obtain⟨y,rfl,hy,hb⟩:=hh
 have h1:=H.out.later hb (nQ _)
 exact hK _ _ ⟨hS _ h1,hn _ _ hy h1⟩
theorem xE {mk:Nat→Value} {cs:Array Value} {t:TypeId} {k:Nat} {o:Oper} {r:Tr} {w0:World} {R:List (Nat×Array Value×TypeId)} (H:Hid (Rn w0 R w)) (ho:bP ops [k]=[o]) (hg:o.guard=none) (he:(execOp a.eval o).run P w=.ok (.value (mk w.heap.size)) (w.alloc (.cells cs t))) (hS:∀v,Rn w0 R v→S1 v) (hn:∀c v,Rn w0 ((c,cs,t)::R) v→bR P ops Q S1 r (a.put o.dst (mk c)) v):wpList P ops (dX (fun a' w'=>S1 w'∧bR P ops Q S1 r a' w') Q) (bP ops [k]) a w:=by
 rw[ho]
 refine wpList_plain hg fun K hK=>?_
 unfold Oper.wp
 rw[he]
 have h1:=H.out.alloc cs t
 exact hK _ _ ⟨hS _ h1.tail,hn _ _ h1⟩
end
end Go.Proofs.YtmjccemdldidaaaGreatDoor
