import Derived.Test.YtmjccemdldidaaaGreatDoorMH31
namespace Go.Proofs.YtmjccemdldidaaaGreatDoor
open Go.RowKit
open Go.Proofs.Tryz
open Go renaming heap_alloc_new → hAN, wpList_load_row → wpLr, wpQuiet_nil → wqN
open Go.World renaming size_alloc → wU
open List renaming length_append → lQ, length_map → lU
open Nat renaming le_refl → nQ, lt_of_lt_of_le → nJ
set_option linter.unusedVariables false
set_option maxHeartbeats 4000000
set_option maxRecDepth 10000
theorem MS (g f n c k:Nat) (h:k<n) (w:World):(Instr.indexAt 42 (.slice (some ⟨g,f,none⟩) n c) (.int .i64 (k:Int))).run prog w=.ok (.pointer (some ⟨g,f+k*32,none⟩)) w:=by
 obtain⟨i,hi⟩:=info_of_underlying underlying25
 have hsz:i.size=32:=by
  have:=iD
  rw[hi]at this
  simpa using this
 have e:(⟨g,f,none⟩:Addr).add (k*32)=⟨g,f+k*32,none⟩:=by
  unfold Addr.add
  split
  ·simp_all
  ·rfl
 simp[Instr.indexAt,run_underlying underlying42,asIntOf,go_sem,h,sizeOf,typeInfo,hi,hsz]
theorem KY {ops:Array Oper} {C:World→Prop} {Q:Act→Prop} {a:Act} {o:Oper} {rest:List Oper} (hgd:o.guard=none) (x y:Operand) (ho:o.op=.indexAddr 42 x y) (g f n c k:Nat) (hx:a.eval x=.slice (some ⟨g,f,none⟩) n c) (hy:a.eval y=.int .i64 (k:Int)) (hk:k<n)
 (h:wpQuiet prog ops C Q rest (a.put o.dst (.pointer (some ⟨g,f+k*32,none⟩)))):wpQuiet prog ops C Q (o::rest) a:=by
 refine aB hgd _ (fun w=>?_) h
 unfold execOp
 simp only[ho,hx,hy,Sem.run_bind,MS g f n c k hk,Result.andThen_ok,Sem.run_pure]
theorem KV {ops:Array Oper} {C:World→Prop} {Q:Act→Prop} {a:Act} {o:Oper} {rest:List Oper} (hgd:o.guard=none) (t':TypeId) (x y:Operand) (ho:o.op=.binOp .eql 25 x y t') (A M:LI) (hx:a.eval x=.agg (Iv .u8 A)) (hy:a.eval y=.agg (Iv .u8 M)) (hA:A.length=32) (hM:M.length=32)
 (h:wpQuiet prog ops C Q rest (a.put o.dst (.bool (decide (A=M))))):wpQuiet prog ops C Q (o::rest) a:=by
 refine aB hgd _ (fun w=>?_) h
 unfold execOp
 simp only[ho,hx,hy,Sem.run_bind,run_eqGuard_agg w .eql _ x y _ _ iC,run_eql_struct,tH A M hA hM w,Result.andThen_ok,Sem.run_pure]
abbrev jK (L:LI) (k:Nat):LI:=aP L (k*32) 32
theorem AZ {L:LI} {n k:Nat} (hL:L.length=n*32) (hk:k<n):(jK L k).length=32:=aZ L _ 32 (n*32) hL (by omega)
theorem Sl.key {w:World} {g o n k:Nat} {L:LI} (h:Sl w g o L) (hL:L.length=n*32) (hk:k<n):w.rangeAt g (o+k*32) (dP (jK L k)):=by
 intro j v hj
 have hl:=AZ hL hk
 have hlt:j<32:=by have:=(List.getElem?_eq_some_iff.1 hj).1;rw[lU,hl]at this;exact this
 rw[show o+k*32+j=o+(k*32+j) by omega,h.2 (k*32+j) (by omega),←hj]
 unfold jK aP
 simp[List.getD_eq_getElem?_getD,hlt]
 rw[List.getElem?_eq_getElem (by omega)]
 rfl
def qX (L key:LI) (n:Nat):Option Nat:=(List.range n).find? fun i=>decide (jK L i=key)
theorem zJ {L key:LI} {n k:Nat} (hk:k<n) (he:jK L k=key) (hb:∀j,j<k→jK L j≠key):qX L key n=some k:=by
 unfold qX
 rw[List.find?_range_eq_some]
 exact⟨by simpa using he,by simpa using hk,fun j hj=>by simpa using hb j hj⟩
theorem zI {L key:LI} {n:Nat} (hb:∀j,j<n→jK L j≠key):qX L key n=none:=by
 unfold qX
 rw[List.find?_eq_none]
 intro j hj
 simpa using hb j (List.mem_range.1 hj)
theorem IU {L key:LI} {n k:Nat} (h:qX L key n=some k):k<n∧jK L k=key:=by
 unfold qX at h
 rw[List.find?_range_eq_some]at h
 exact⟨by simpa using h.2.1,by simpa using h.1⟩
def ahF:Option Nat→Int
 | some k=>k
 | none=> -1
theorem QH {L:LI} {n k:Nat} (hL:L.length=n*32) (hk:k<n):(prog.info? 25).map (·.size)=some (dP (jK L k)).length:=by rw[aL,AZ hL hk];exact iD
theorem ZP (L key:LI) (n:Nat) (hL:L.length=n*32) (hk:key.length=32) (hn:n≤1048576) (g cap:Nat) (w:World) (hS:Sl w g 0 L):
 Calls prog 45 #[.slice (some ⟨g,0,none⟩) n cap,.agg (Iv .u8 key)] w fun e w'=>e=.returned (.int .i64 (ahF (qX L key n)))∧Below w.heap.size w w':=by
 have HL:Hid _:=hL
 have HK:Hid _:=hk
 have R0:Hid _:=(Rn.start w).alloc (Iv .u8 key) 25
 have HS:Hid _:=hS
 obtain⟨W,hW⟩:∃W,w.alloc (.cells (Iv .u8 key) 25)=W:=⟨_,rfl⟩
 have HB:Hid (Below w.heap.size w W):=by show Below _ _ _;rw[←hW];exact(Below.refl _ _).alloc (nQ _) _
 have R1:Hid (W.heap[w.heap.size]? =some (.cells (Iv .u8 key) 25)):=by show _=_;rw[←hW];exact hAN _ _
 clear hL hk R0 hS
 go_enter func45,ntmps45
 go_wp2_with fail
 clear hW
 go_loopw [8] (fun i wr=>∃k:Nat,k≤n∧i=.int .i64 k∧(∀j,j<k→jK L j≠key)∧Below W.heap.size W wr) (fun i _=>n - (intOf i).toNat)
 case atStart=>exact⟨0,Nat.zero_le _,rfl,fun j hj=>absurd hj (Nat.not_lt_zero _),Below.refl _ _⟩
 case round=>
  obtain⟨k,hk,rfl,hb,hbr⟩:=hrel
  by_cases hlt:k<n
  ·have HBR:Hid _:=hbr
   have HBJ:Hid _:=hb
   clear hbr hb
   go_wp2_with fail
   have hlb:Hid (w.heap.size<W.heap.size):=(Array.getElem?_eq_some_iff.1 R1.out).1
   refine tC W.heap.size W wG (by kernel_rfl) HBR.out ?_
   refine wqLr rfl 25 _ rfl w.heap.size rfl _ (Iv .u8 key) _ _ (fun w' hw'=>by obtain⟨x,rfl⟩:=hw';exact(x.bel.block _ hlb.out).trans R1.out) underlying25 rfl (aI HK.out) ?_
   simp only[pS]
   refine aB rfl (.slice (some ⟨g,0,none⟩) n cap) (fun w'=>by kernel_rfl) ?_
   simp only[pS]
   refine aB rfl (.int .i64 (k:Int)) (fun w'=>by kernel_rfl) ?_
   simp only[pS]
   refine KY rfl _ _ rfl g 0 n cap k rfl rfl hlt ?_
   simp only[pS]
   refine wqLm rfl 25 _ rfl g (0+k*32) rfl (dP (jK L k)) _ (fun w' hw'=>by obtain⟨x,rfl⟩:=hw';exact(Sl.later (Sl.later HS.out HB.out HS.out.1) x.bel (Sl.later HS.out HB.out HS.out.1).1).key HL.out hlt) underlying25 rfl (QH HL.out hlt) ?_
   simp only[pS]
   refine KV rfl _ _ _ rfl key (jK L k) rfl rfl HK.out (AZ HL.out hlt) ?_
   simp only[pS]
   refine wqN ?_
   intro w1 hw1
   have HB1:Hid _:=hw1
   clear hw1 HBR
   by_cases he:key=jK L k
   ·have hd:=decide_eq_true he
    have HF:Hid _:=zJ hlt he.symm HBJ.out
    rw[hd]
    clear hd he HBJ
    go_wp2_with fail
    exact bodyPost_ret (v:=.int .i64 (k:Int)) (by kernel_rfl) rfl ⟨by rw[HF.out];rfl,HB.out.trans (HB1.out.mono HB.out.size)⟩
   ·have hd:=decide_eq_false he
    rw[hd]
    clear hd
    have HE:Hid (jK L k≠key):=fun h=>he h.symm
    clear he
    go_wp2_with fail
    go_roundw
    case rel=>first|exact⟨k+1,by omega,by go_num,fun j hj=>if h:j=k then h▸HE.out else HBJ.out j (by omega),HB1.out⟩|exact⟨_,_,_,_,_,_,_,_,_,_,⟨k+1,by omega,by go_num,fun j hj=>if h:j=k then h▸HE.out else HBJ.out j (by omega),HB1.out⟩,rfl⟩
    case measure=>simp[intOf];omega
  ·have hkn:k=n:=by omega
   subst hkn
   have HF:Hid _:=zI hb
   have HBR:Hid _:=hbr
   clear hbr hb
   go_wp2_with fail
   exact bodyPost_ret (v:=.int .i64 (-1)) (by kernel_rfl) rfl ⟨by rw[HF.out];rfl,HB.out.trans (HBR.out.mono HB.out.size)⟩
def mZ (k who:Int) (st c h:LI) (m:Int):List Value:=[.int .i64 k]++([.int .i64 who]++(dP st++(dP c++(dP h++[.int .i64 m]))))
theorem FZ (k who:Int) (st c h:LI) (m:Int) (hs:st.length=12) (hc:c.length=32) (hh:h.length=32):(mZ k who st c h m).length=79:=by simp[mZ,hs,hc,hh]
abbrev nW (k m:Int):List Value:=mZ k 0 (aA 12) (aA 32) (aA 32) m
theorem bCo (ps:List (Nat×Value)):prog.built 44 ps=Instr.fill (fun i=>#[(0,1),(1,1),(2,12),(14,32),(46,32),(78,1)][i]?) (nW 0 0).toArray ps:=by kernel_rfl
theorem tE (k m:Int):prog.built 44 [(0,.int .i64 k),(5,.int .i64 m)]=some (nW k m).toArray:=by kernel_rfl
theorem Q9 {α:Type} (A B D E F p q C:List α) (i:Nat) (hA:A.length+B.length+D.length+E.length+F.length=i) (hp:p.length=q.length):(A++(B++(D++(E++(F++(p++C)))))).take i++q++(A++(B++(D++(E++(F++(p++C)))))).drop (i+q.length)=A++(B++(D++(E++(F++(q++C))))):=by
 have:=mH (A++(B++(D++(E++F)))) p q C i (by simp only[lQ];omega) hp
 simpa only[List.append_assoc]using this
theorem abT (k who:Int) (st c h:LI) (m:Int) (hs:st.length=12) (hc:c.length=32) (hh:h.length=32):prog.built 44 [(0,.int .i64 k),(1,.int .i64 who),(2,.agg (Iv .u8 st)),(3,.agg (Iv .u8 c)),(4,.agg (Iv .u8 h)),(5,.int .i64 m)]=some (mZ k who st c h m).toArray:=by
 refine(bCo _).trans ?_
 refine(bO _ 0 0 1 _ [.int .i64 k] rfl rfl rfl (by simp[aA]) _ (tP [Value.int .i64 0] _ ([Value.int .i64 0]++(dP (aA 12)++(dP (aA 32)++(dP (aA 32)++[Value.int .i64 0])))) rfl) _).trans ?_
 refine(bO _ 1 1 1 _ [.int .i64 who] rfl rfl rfl (by simp) _ (mH [Value.int .i64 k] [Value.int .i64 0] _ _ _ rfl rfl) _).trans ?_
 refine(bO _ 2 2 12 _ (dP st) rfl rfl (by rw[aL,hs]) (by simp[aA]) _ (tR [Value.int .i64 k] [Value.int .i64 who] (dP (aA 12)) _ _ _ rfl (by rw[aL,aL,hs];rfl)) _).trans ?_
 refine(bO _ 3 14 32 _ (dP c) rfl rfl (by rw[aL,hc]) (by simp[hs,aA]) _ (vZ [Value.int .i64 k] [Value.int .i64 who] (dP st) (dP (aA 32)) _ _ _ (by rw[aL st,hs];rfl) (by rw[aL,aL,hc];rfl)) _).trans ?_
 refine(bO _ 4 46 32 _ (dP h) rfl rfl (by rw[aL,hh]) (by simp[hs,hc,aA]) _ (I6 [Value.int .i64 k] [Value.int .i64 who] (dP st) (dP c) (dP (aA 32)) _ _ _ (by rw[aL st,aL c,hs,hc];rfl) (by rw[aL,aL,hh];rfl)) _).trans ?_
 refine(bO _ 5 78 1 _ [.int .i64 m] rfl rfl rfl (by simp[hs,hc,hh]) _ (Q9 [Value.int .i64 k] [Value.int .i64 who] (dP st) (dP c) (dP h) [Value.int .i64 0] _ [] _ (by rw[aL st,aL c,aL h,hs,hc,hh];rfl) rfl) _).trans ?_
 rfl
theorem PL (k who:Int) (c h:LI) (m:Int) (hc:c.length=32) (hh:h.length=32):prog.built 44 [(0,.int .i64 k),(1,.int .i64 who),(3,.agg (Iv .u8 c)),(4,.agg (Iv .u8 h)),(5,.int .i64 m)]=some (mZ k who (aA 12) c h m).toArray:=by
 refine(bCo _).trans ?_
 refine(bO _ 0 0 1 _ [.int .i64 k] rfl rfl rfl (by simp[aA]) _ (tP [Value.int .i64 0] _ ([Value.int .i64 0]++(dP (aA 12)++(dP (aA 32)++(dP (aA 32)++[Value.int .i64 0])))) rfl) _).trans ?_
 refine(bO _ 1 1 1 _ [.int .i64 who] rfl rfl rfl (by simp) _ (mH [Value.int .i64 k] [Value.int .i64 0] _ _ _ rfl rfl) _).trans ?_
 refine(bO _ 3 14 32 _ (dP c) rfl rfl (by rw[aL,hc]) (by simp[aA]) _ (vZ [Value.int .i64 k] [Value.int .i64 who] (dP (aA 12)) (dP (aA 32)) _ _ _ rfl (by rw[aL,aL,hc];rfl)) _).trans ?_
 refine(bO _ 4 46 32 _ (dP h) rfl rfl (by rw[aL,hh]) (by simp[hc,aA]) _ (I6 [Value.int .i64 k] [Value.int .i64 who] (dP (aA 12)) (dP c) (dP (aA 32)) _ _ _ (by rw[aL c,hc];rfl) (by rw[aL,aL,hh];rfl)) _).trans ?_
 refine(bO _ 5 78 1 _ [.int .i64 m] rfl rfl rfl (by simp[hc,hh,aA]) _ (Q9 [Value.int .i64 k] [Value.int .i64 who] (dP (aA 12)) (dP c) (dP h) [Value.int .i64 0] _ [] _ (by rw[aL c,aL h,hc,hh];rfl) rfl) _).trans ?_
 rfl
theorem ai1 (ps:List (Nat×Value)):prog.built 70 ps=Instr.fill (fun i=>#[(0,64),(64,1),(65,32)][i]?) (dP (aA 64)++([Value.int .i64 0]++(dP (aA 32)++[]))).toArray ps:=by kernel_rfl
theorem LK (c h g:LI) (m:Int) (hc:c.length=32) (hh:h.length=32) (hg:g.length=32):prog.built 70 [(0,.agg (dF c h []).toArray),(1,.agg #[Value.int .i64 m]),(2,.agg (Iv .u8 g))]=some (dF c h (.int .i64 m::dP g)).toArray:=by
 have hl:(dF c h []).length=64:=iO c h [] hc hh
 refine(ai1 _).trans ?_
 refine(bO _ 0 0 64 _ (dF c h []) rfl rfl hl (by decide) _ (tP (dP (aA 64)) _ _ (by rw[aL,hl];rfl)) _).trans ?_
 refine(bO _ 1 64 1 _ [Value.int .i64 m] rfl rfl rfl (by simp[hl,aA]) _ (mH (dF c h []) [Value.int .i64 0] _ _ 64 hl rfl) _).trans ?_
 refine(bO _ 2 65 32 _ (dP g) rfl rfl (by rw[aL,hg]) (by simp[hl,aA]) _ (tR (dF c h []) [Value.int .i64 m] (dP (aA 32)) _ _ 65 (by rw[hl];rfl) (by rw[aL,aL,hg];rfl)) _).trans ?_
 simp[dF,Instr.fill]
structure lZ (c h l z:LI) (m:Int) (e X Y C1 H1 p1 k1 C2 H2 s p2 k2 C3 H3 st:LI) (m1 m2:Int):Prop where
 lc:c.length=32
 lh:h.length=32
 ll:l.length=32
 lz:z.length=140
 bc:aC c
 bh:aC h
 bl:aC l
 bz:aC z
 ee:aP z 0 32=e
 eX:aP z 32 48=X
 eY:aP z 80 28=Y
 eC1:fF (fJ c e) 0=C1
 eH1:dC (h++e)=H1
 ep1:fW l e=p1
 ek1:PG C1 p1=k1
 eC2:sfC C1 p1=C2
 eH2:dC (H1++X)=H2
 es:opX k1 X 32=s
 ep2:fW l s=p2
 ek2:PG C2 p2=k2
 eC3:sfC C2 p2=C3
 eH3:dC (H2++Y)=H3
 est:opX k2 Y 12=st
 em1:IntKind.i64.wrap (m+1)=m1
 em2:IntKind.i64.wrap (m1+1)=m2
theorem wK {z:LI} (h:aC z) (o n:Nat):aC (aP z o n):=dB (cE h o) n
section
variable {c h l z:LI} {m:Int} {e X Y C1 H1 p1 k1 C2 H2 s p2 k2 C3 H3 st:LI} {m1 m2:Int}
theorem lZ.le (K:lZ c h l z m e X Y C1 H1 p1 k1 C2 H2 s p2 k2 C3 H3 st m1 m2):e.length=32:=by rw[←K.ee];exact aZ z 0 32 140 K.lz (by decide)
theorem lZ.be (K:lZ c h l z m e X Y C1 H1 p1 k1 C2 H2 s p2 k2 C3 H3 st m1 m2):aC e:=by rw[←K.ee];exact wK K.bz _ _
theorem lZ.lX (K:lZ c h l z m e X Y C1 H1 p1 k1 C2 H2 s p2 k2 C3 H3 st m1 m2):X.length=48:=by rw[←K.eX];exact aZ z 32 48 140 K.lz (by decide)
theorem lZ.bX (K:lZ c h l z m e X Y C1 H1 p1 k1 C2 H2 s p2 k2 C3 H3 st m1 m2):aC X:=by rw[←K.eX];exact wK K.bz _ _
theorem lZ.lY (K:lZ c h l z m e X Y C1 H1 p1 k1 C2 H2 s p2 k2 C3 H3 st m1 m2):Y.length=28:=by rw[←K.eY];exact aZ z 80 28 140 K.lz (by decide)
theorem lZ.bY (K:lZ c h l z m e X Y C1 H1 p1 k1 C2 H2 s p2 k2 C3 H3 st m1 m2):aC Y:=by rw[←K.eY];exact wK K.bz _ _
theorem lZ.lC1 (K:lZ c h l z m e X Y C1 H1 p1 k1 C2 H2 s p2 k2 C3 H3 st m1 m2):C1.length=32:=by rw[←K.eC1];exact aY _ _
theorem lZ.bC1 (K:lZ c h l z m e X Y C1 H1 p1 k1 C2 H2 s p2 k2 C3 H3 st m1 m2):aC C1:=by rw[←K.eC1];exact fM _ _
theorem lZ.lH1 (K:lZ c h l z m e X Y C1 H1 p1 k1 C2 H2 s p2 k2 C3 H3 st m1 m2):H1.length=32:=by rw[←K.eH1];exact bC _
theorem lZ.bH1 (K:lZ c h l z m e X Y C1 H1 p1 k1 C2 H2 s p2 k2 C3 H3 st m1 m2):aC H1:=by rw[←K.eH1];exact cC _
theorem lZ.lH2 (K:lZ c h l z m e X Y C1 H1 p1 k1 C2 H2 s p2 k2 C3 H3 st m1 m2):H2.length=32:=by rw[←K.eH2];exact bC _
theorem lZ.bH2 (K:lZ c h l z m e X Y C1 H1 p1 k1 C2 H2 s p2 k2 C3 H3 st m1 m2):aC H2:=by rw[←K.eH2];exact cC _
theorem lZ.lH3 (K:lZ c h l z m e X Y C1 H1 p1 k1 C2 H2 s p2 k2 C3 H3 st m1 m2):H3.length=32:=by rw[←K.eH3];exact bC _
theorem lZ.bH3 (K:lZ c h l z m e X Y C1 H1 p1 k1 C2 H2 s p2 k2 C3 H3 st m1 m2):aC H3:=by rw[←K.eH3];exact cC _
theorem lZ.lp1 (K:lZ c h l z m e X Y C1 H1 p1 k1 C2 H2 s p2 k2 C3 H3 st m1 m2):p1.length=32:=by rw[←K.ep1];exact bA _ _
theorem lZ.bp1 (K:lZ c h l z m e X Y C1 H1 p1 k1 C2 H2 s p2 k2 C3 H3 st m1 m2):aC p1:=by rw[←K.ep1];exact pH _ _
theorem lZ.lp2 (K:lZ c h l z m e X Y C1 H1 p1 k1 C2 H2 s p2 k2 C3 H3 st m1 m2):p2.length=32:=by rw[←K.ep2];exact bA _ _
theorem lZ.bp2 (K:lZ c h l z m e X Y C1 H1 p1 k1 C2 H2 s p2 k2 C3 H3 st m1 m2):aC p2:=by rw[←K.ep2];exact pH _ _
theorem lZ.lk1 (K:lZ c h l z m e X Y C1 H1 p1 k1 C2 H2 s p2 k2 C3 H3 st m1 m2):k1.length=32:=by rw[←K.ek1];exact aY _ _
theorem lZ.bk1 (K:lZ c h l z m e X Y C1 H1 p1 k1 C2 H2 s p2 k2 C3 H3 st m1 m2):aC k1:=by rw[←K.ek1];exact fM _ _
theorem lZ.lk2 (K:lZ c h l z m e X Y C1 H1 p1 k1 C2 H2 s p2 k2 C3 H3 st m1 m2):k2.length=32:=by rw[←K.ek2];exact aY _ _
theorem lZ.bk2 (K:lZ c h l z m e X Y C1 H1 p1 k1 C2 H2 s p2 k2 C3 H3 st m1 m2):aC k2:=by rw[←K.ek2];exact fM _ _
theorem lZ.lC2 (K:lZ c h l z m e X Y C1 H1 p1 k1 C2 H2 s p2 k2 C3 H3 st m1 m2):C2.length=32:=by rw[←K.eC2];exact aY _ _
theorem lZ.bC2 (K:lZ c h l z m e X Y C1 H1 p1 k1 C2 H2 s p2 k2 C3 H3 st m1 m2):aC C2:=by rw[←K.eC2];exact fM _ _
theorem lZ.lC3 (K:lZ c h l z m e X Y C1 H1 p1 k1 C2 H2 s p2 k2 C3 H3 st m1 m2):C3.length=32:=by rw[←K.eC3];exact aY _ _
theorem lZ.bC3 (K:lZ c h l z m e X Y C1 H1 p1 k1 C2 H2 s p2 k2 C3 H3 st m1 m2):aC C3:=by rw[←K.eC3];exact fM _ _
theorem lZ.ls (K:lZ c h l z m e X Y C1 H1 p1 k1 C2 H2 s p2 k2 C3 H3 st m1 m2):s.length=32:=by rw[←K.es];exact GI _ _ _
theorem lZ.bs (K:lZ c h l z m e X Y C1 H1 p1 k1 C2 H2 s p2 k2 C3 H3 st m1 m2):aC s:=by rw[←K.es];exact agE _ _ _
theorem lZ.lst (K:lZ c h l z m e X Y C1 H1 p1 k1 C2 H2 s p2 k2 C3 H3 st m1 m2):st.length=12:=by rw[←K.est];exact GI _ _ _
theorem lZ.bst (K:lZ c h l z m e X Y C1 H1 p1 k1 C2 H2 s p2 k2 C3 H3 st m1 m2):aC st:=by rw[←K.est];exact agE _ _ _
end
def vG (H1 X H2 Y p1 k1 s p2 k2 C3 H3 st L:LI) (n:Nat) (m1 m2:Int):List Value:=
 if p1=aA 32 then nW 29 m1
 else if FY (blk k1 zn) H1 (X.take 32)=X.drop 32 then
  match qX L s n with
  | none=>nW 10 m1
  | some k=>if p2=aA 32 then nW 29 m2 else if FY (blk k2 zn) H2 (Y.take 12)=Y.drop 12 then mZ 30 ((k:Int)+1) st C3 H3 m2 else nW 11 m2
 else nW 9 m1
section
variable {H1 X H2 Y p1 k1 s p2 k2 C3 H3 st L:LI} {n k:Nat} {m1 m2:Int}
theorem WP (h1:p1=aA 32):vG H1 X H2 Y p1 k1 s p2 k2 C3 H3 st L n m1 m2=nW 29 m1:=if_pos h1
theorem WQ (h1:p1≠aA 32) (h2:¬KI k1 H1 X 32):vG H1 X H2 Y p1 k1 s p2 k2 C3 H3 st L n m1 m2=nW 9 m1:=(if_neg h1).trans (if_neg h2)
theorem NX (h1:p1≠aA 32) (h2:KI k1 H1 X 32) (h3:qX L s n=none):vG H1 X H2 Y p1 k1 s p2 k2 C3 H3 st L n m1 m2=nW 10 m1:=(if_neg h1).trans ((if_pos h2).trans (by rw[h3]))
theorem WS (h1:p1≠aA 32) (h2:KI k1 H1 X 32) (h3:qX L s n=some k) (h4:p2=aA 32):vG H1 X H2 Y p1 k1 s p2 k2 C3 H3 st L n m1 m2=nW 29 m2:=(if_neg h1).trans ((if_pos h2).trans (by rw[h3];exact if_pos h4))
theorem WT (h1:p1≠aA 32) (h2:KI k1 H1 X 32) (h3:qX L s n=some k) (h4:p2≠aA 32) (h5:¬KI k2 H2 Y 12):vG H1 X H2 Y p1 k1 s p2 k2 C3 H3 st L n m1 m2=nW 11 m2:=(if_neg h1).trans ((if_pos h2).trans (by rw[h3];exact(if_neg h4).trans (if_neg h5)))
theorem NY (h1:p1≠aA 32) (h2:KI k1 H1 X 32) (h3:qX L s n=some k) (h4:p2≠aA 32) (h5:KI k2 H2 Y 12):vG H1 X H2 Y p1 k1 s p2 k2 C3 H3 st L n m1 m2=mZ 30 ((k:Int)+1) st C3 H3 m2:=(if_neg h1).trans ((if_pos h2).trans (by rw[h3];exact(if_neg h4).trans (if_pos h5)))
end
theorem mW {P:Program} {fn:Func} {p u v:Tmp} {ty:TypeId} (h:fn.results=#[.tmp u,.cell p ty,.tmp v]) (tmps:Array Value) (w:World) (g:Nat) (t:TypeId) (cs:Array Value) (d:TypeDesc) (a b:Value)
 (hu:tmps.getD u undef=a) (hp:tmps.getD p undef=.pointer (some ⟨g,0,none⟩)) (hv:tmps.getD v undef=b) (hg:w.heap[g]? =some (.cells cs t))
 (hd:P.underlying ty=some d) (hr:(match d with| .struct _| .array _ _=>true|_=>false)=true) (hi:(P.info? ty).map (·.size)=some cs.size):
 (results fn tmps).run P w=.ok (.tuple #[a,.agg cs,b]) w:=by
 have hu':tmps[u]?.getD undef=a:=by simpa using hu
 have hp':tmps[p]?.getD undef=.pointer (some ⟨g,0,none⟩):=by simpa using hp
 have hv':tmps[v]?.getD undef=b:=by simpa using hv
 simp[results,h,hu',hp',hv',asAddr,run_loadVar_row w g t ty cs _ d hg hd hr hi]
theorem AE:prog.built 30 []=some (Iv .u8 (aA 12)):=by kernel_rfl
theorem akF {l:LI} (h:l.length=12):(Iv .u8 (aA 12)).size=(Iv .u8 l).size:=by rw[aD,aD,h];rfl
theorem aaZ {c h l z:LI} {m:Int} {e X Y C1 H1 p1 k1 C2 H2 s p2 k2 C3 H3 st:LI} {m1 m2:Int} (K:lZ c h l z m e X Y C1 H1 p1 k1 C2 H2 s p2 k2 C3 H3 st m1 m2) (r:Int) (L:LI) (n:Nat) (hL:L.length=n*32) (hn:n≤1048576) (kg kc b:Nat) (hb3:3<b) (t:TypeId) (w:World) (hr:w.heap[b]? =some (.cells (dF c h (.int .i64 m::l.map (Value.int .u8))).toArray t)) (ht:cN w) (hS:Sl w kg 0 L) (hne:kg≠b):
 Calls prog 21 #[.pointer (some ⟨b,0,none⟩),.agg (WL r z).toArray,.slice (some ⟨kg,0,none⟩) n kc] w fun x w'=>
  (∃s' code mm cc hh,x=.returned (.tuple #[.int .i64 0,.agg (Iv .u8 (aA 12)),zQ s' code])∧code≠30∧cc.length=32∧hh.length=32∧vG H1 X H2 Y p1 k1 s p2 k2 C3 H3 st L n m1 m2=nW code mm∧Tn w b (dF cc hh (.int .i64 mm::l.map (Value.int .u8))) t w')∨
  (∃k:Nat,k<n∧x=.returned (.tuple #[.int .i64 k,.agg (Iv .u8 st),.nilIface])∧vG H1 X H2 Y p1 k1 s p2 k2 C3 H3 st L n m1 m2=mZ 30 ((k:Int)+1) st C3 H3 m2∧Tn w b (dF C3 H3 (.int .i64 m2::l.map (Value.int .u8))) t w'):=by
 have CM:Hid (∀(W:World) (hr:W.heap[b]? =some (.cells (dF c h (.int .i64 m::l.map (Value.int .u8))).toArray t)) (ht:cN W),_):=fun W hr ht=>tT c h e (.int .i64 m::l.map (Value.int .u8)) K.lc K.lh K.le K.bc K.bh K.be b hb3 t W hr ht
 have CS:Hid (∀(W:World) (g:Nat) (hr:W.heap[b]? =some (.cells (dF C1 H1 (.int .i64 m::l.map (Value.int .u8))).toArray t)) (ht:cN W) (hS:Sl W g 33 X) (hne:g≠b),_):=fun W g hr ht hS hne=>A9 C1 H1 l e X m 9 K.lC1 K.lH1 K.ll K.le K.bC1 K.bH1 K.bl K.be K.bX 32 K.lX (by decide) (by decide) g 33 48 (by decide) (by decide) b hb3 t W hr ht hS hne
 have CT:Hid (∀(W:World) (g:Nat) (hr:W.heap[b]? =some (.cells (dF C2 H2 (.int .i64 m1::l.map (Value.int .u8))).toArray t)) (ht:cN W) (hS:Sl W g 81 Y) (hne:g≠b),_):=fun W g hr ht hS hne=>A9 C2 H2 l s Y m1 11 K.lC2 K.lH2 K.ll K.ls K.bC2 K.bH2 K.bl K.bs K.bY 12 K.lY (by decide) (by decide) g 81 28 (by decide) (by decide) b hb3 t W hr ht hS hne
 have CI:Hid (∀(W:World) (hS:Sl W kg 0 L),_):=fun W hS=>ZP L s n hL K.ls hn kg kc W hS
 rw[K.eC1,K.eH1]at CM
 rw[K.ep1,K.ek1,K.eC2,K.eH2,K.es,K.em1]at CS
 rw[K.ep2,K.ek2,K.eC3,K.eH3,K.est,K.em2]at CT
 have hK:Hid _:=K
 have HT:Hid (cN w):=ht
 have S0:Hid _:=Sx.start hr
 have HS:Hid (Sl w kg 0 L∧kg≠b):=⟨hS,hne⟩
 have HLN:Hid (n≤1048576):=hn
 obtain⟨G',eG⟩:∃x,l.map (Value.int .u8)=x:=⟨_,rfl⟩
 rw[eG]at CM CS CT S0⊢
 have hz:∀W,(zeroValue 30).run prog W=.ok (.agg (Iv .u8 (aA 12))) W:=(zero_of_info (n:=12) (by kernel_rfl)).1
 have hz32:=dM
 go_enter func21,ntmps21
 go_wp2_with fail
 obtain⟨n0,e0⟩:∃n,w.heap.size=n:=⟨_,rfl⟩
 have S1:=(S0.out.alloc n0 e0 (WL r z).toArray 37).alloc (n0+1) (by simp[e0]) (Iv .u8 (aA 12)) 30
 rw[e0]
 obtain⟨W,hW⟩:∃W,(w.alloc (.cells (WL r z).toArray 37)).alloc (.cells (Iv .u8 (aA 12)) 30)=W:=⟨_,rfl⟩
 rw[hW]at S1⊢
 have S:Hid _:=S1.drew
 have hnb:Hid (b<n0):=by show _<_;rw[←e0];exact S0.out.lb
 clear hW S1 S0 e0
 refine wRt 5 _ (.held [0,1,2,3,4] (.last 5 .done)) dE (by kernel_rfl) S.out ?_
 obtain⟨y0,ey⟩:∃y,y=W.drew:=⟨_,rfl⟩
 rw[←ey]at S⊢
 clear ey
 refine wTh ?_
 simp only[oS]
 refine aB rfl (.pointer (some ⟨b,0,none⟩)) (fun w'=>by kernel_rfl) ?_
 simp only[pS]
 refine aB rfl (.pointer (some ⟨b,0,none⟩)) (fun w'=>by kernel_rfl) ?_
 simp only[pS]
 refine aB rfl (.pointer (some ⟨b,0,none⟩)) (fun w'=>by kernel_rfl) ?_
 simp only[pS]
 refine aB rfl (.pointer (some ⟨n0,1,none⟩)) (fun w'=>by kernel_rfl) ?_
 simp only[pS]
 refine wqLm rfl 25 _ rfl n0 1 rfl (dP e) _ (fun w' hw'=>by rw[←hK.out.ee];exact oI (hw'.at (.tail _ (.head _))) 0 32) underlying25 rfl (dK hK.out.le) ?_
 simp only[pS]
 refine wqN ?_
 refine wTl ?_
 simp only[oS]
 go_wp2_with fail
 refine(CM.out _ S.out.here (S.out.tabs HT.out hb3)).mono ?_
 rintro x y3 ⟨rfl,hT⟩
 have S2:Hid _:=S.out.turn hT
 go_wp2_with fail
 refine aQ ?_
 go_wp2_with fail
 have S:Hid _:=S2.out.drew
 clear S2
 refine wRt 10 (fun v=>∃cs,Sx w b cs t [RU (n0+1) (aA 12),VE n0 r z] v) (.held [0,1,2,3,4] (.tail 5 (.held [6,7,8] (.tail 9 (.last 10 .done))))) dE (by kernel_rfl) ⟨_,S.out⟩ ?_
 obtain⟨y4,ey⟩:∃y,y=y3.drew:=⟨_,rfl⟩
 rw[←ey]at S⊢
 clear ey
 refine wTh ?_
 simp only[oS]
 refine aB rfl (.pointer (some ⟨b,0,none⟩)) (fun w'=>by kernel_rfl) ?_
 simp only[pS]
 refine aB rfl (.pointer (some ⟨n0,1,none⟩)) (fun w'=>by kernel_rfl) ?_
 simp only[pS]
 refine wqLm rfl 25 _ rfl n0 1 rfl (dP e) _ (fun w' hw'=>by obtain⟨m',hx⟩:=hw';rw[←hK.out.ee];exact oI (hx.at (.tail _ (.head _))) 0 32) underlying25 rfl (dK hK.out.le) ?_
 simp only[pS]
 refine aB rfl (.pointer (some ⟨n0,33,none⟩)) (fun w'=>by kernel_rfl) ?_
 simp only[pS]
 refine aB rfl (.slice (some ⟨n0,33,none⟩) (32+16) 48) (fun w'=>by kernel_rfl) ?_
 simp only[pS]
 refine wqN ?_
 refine wTt ?_
 simp only[oS]
 go_wp2_with fail
 refine(CS.out _ n0 S.out.here (S.out.tabs HT.out hb3) (by have q:=oI (S.out.at (.tail _ (.head _))) 32 48;rw[hK.out.eX]at q;exact Sl.of_range (Array.getElem?_eq_some_iff.1 (S.out.at (.tail _ (.head _)))).1 q) (by have:=hnb.out;omega)).mono ?_
 rintro x y5 (⟨hE,rfl,hT⟩|⟨hE,hO,rfl,hT⟩|⟨hE,hO,g5,cap5,rfl,hg1,hg2,hg3,hS5,hT⟩)
 ·have S2:Hid _:=S.out.turn hT
  have HE:Hid _:=hE
  go_wp2_with fail
  refine⟨⟨_,S2.out⟩,?_⟩
  refine wTh ?_
  simp only[oS]
  refine aB rfl (.tuple #[.slice none 0 0,jU 29]) (fun w'=>by kernel_rfl) ?_
  simp only[pS]
  refine aB rfl (.slice none 0 0) (fun w'=>by kernel_rfl) ?_
  simp only[pS]
  refine aB rfl (jU 29) (fun w'=>by kernel_rfl) ?_
  simp only[pS]
  refine wqN ?_
  refine wTt ?_
  simp only[oS]
  go_wp2_with fail
  refine⟨⟨_,S2.out⟩,?_⟩
  refine wTl ?_
  simp only[oS]
  go_wp2_with fail
  refine aQ ?_
  have hb12:Hid _:=AE
  go_wp2_with(first
   | refine aN rfl 30 _ rfl (Iv .u8 (aA 12)) _ (by kernel_rfl) hb12.out ?_
   | refine wpPr rfl 30 _ _ rfl (n0+1) (Iv .u8 (aA 12)) rfl rfl _ _ (S2.out.at (.head _)) (iS rfl) rfl (aG _ _) ?_)
  intro y6 hP
  have S3:Hid _:=Sx.putK (R1:=[]) S2.out hP
  go_wp2_with fail
  exact bodyPost_ret (v:=.tuple #[.int .i64 0,.agg (Iv .u8 (aA 12)),zQ MT 29]) (mW rfl _ _ _ _ (Iv .u8 (aA 12)) _ _ _ rfl rfl rfl (S3.out.at (.head _)) underlying30 rfl (iS rfl)) rfl (.inl ⟨_,_,m1,C1,H1,rfl,by decide,hK.out.lC1,hK.out.lH1,WP HE.out,S3.out.tn⟩)
 ·have S2:Hid _:=S.out.turn hT
  have HE:Hid _:=hE
  have HO:Hid _:=hO
  go_wp2_with fail
  refine⟨⟨_,S2.out⟩,?_⟩
  refine wTh ?_
  simp only[oS]
  refine aB rfl (.tuple #[.slice none 0 0,jU 9]) (fun w'=>by kernel_rfl) ?_
  simp only[pS]
  refine aB rfl (.slice none 0 0) (fun w'=>by kernel_rfl) ?_
  simp only[pS]
  refine aB rfl (jU 9) (fun w'=>by kernel_rfl) ?_
  simp only[pS]
  refine wqN ?_
  refine wTt ?_
  simp only[oS]
  go_wp2_with fail
  refine⟨⟨_,S2.out⟩,?_⟩
  refine wTl ?_
  simp only[oS]
  go_wp2_with fail
  refine aQ ?_
  have hb12:Hid _:=AE
  go_wp2_with(first
   | refine aN rfl 30 _ rfl (Iv .u8 (aA 12)) _ (by kernel_rfl) hb12.out ?_
   | refine wpPr rfl 30 _ _ rfl (n0+1) (Iv .u8 (aA 12)) rfl rfl _ _ (S2.out.at (.head _)) (iS rfl) rfl (aG _ _) ?_)
  intro y6 hP
  have S3:Hid _:=Sx.putK (R1:=[]) S2.out hP
  go_wp2_with fail
  exact bodyPost_ret (v:=.tuple #[.int .i64 0,.agg (Iv .u8 (aA 12)),zQ MT 9]) (mW rfl _ _ _ _ (Iv .u8 (aA 12)) _ _ _ rfl rfl rfl (S3.out.at (.head _)) underlying30 rfl (iS rfl)) rfl (.inl ⟨_,_,m1,C2,H1,rfl,by decide,hK.out.lC2,hK.out.lH1,WQ HE.out HO.out,S3.out.tn⟩)
 ·have S2:Hid _:=S.out.turn hT
  have HE:Hid _:=hE
  have HO:Hid _:=hO
  have X0:Hid (Sl y5 g5 0 s):=hS5
  go_wp2_with fail
  refine⟨⟨_,S2.out⟩,?_⟩
  refine wTh ?_
  simp only[oS]
  refine aB rfl (.tuple #[.slice (some ⟨g5,0,none⟩) 32 cap5,.nilIface]) (fun w'=>by kernel_rfl) ?_
  simp only[pS]
  refine aB rfl (.slice (some ⟨g5,0,none⟩) 32 cap5) (fun w'=>by kernel_rfl) ?_
  simp only[pS]
  refine aB rfl (.nilIface) (fun w'=>by kernel_rfl) ?_
  simp only[pS]
  refine wqN ?_
  refine wTt ?_
  simp only[oS]
  go_wp2_with fail
  refine⟨⟨_,S2.out⟩,?_⟩
  refine wTl ?_
  simp only[oS]
  go_wp2_with fail
  refine aQ ?_
  have hA:∀W,(Instr.arrayAt 25 (.slice (some ⟨g5,0,none⟩) 32 cap5)).run prog W=.ok (.pointer (some ⟨g5,0,none⟩)) W:=fun W=>by kernel_rfl
  obtain⟨g11,e11⟩:∃n,y5.heap.size=n:=⟨_,rfl⟩
  have S4:Hid _:=S2.out.alloc g11 e11 (Iv .u8 (aA 32)) 25
  go_wp2_with(first
   | refine wpList_load_mid rfl 25 _ rfl g5 0 rfl (dP s) _ X0.out.range underlying25 rfl (dK hK.out.ls) ?_
   | refine wpPr rfl 25 _ _ rfl g11 (Iv .u8 s) rfl rfl _ _ (S4.out.at (.head _)) (aI hK.out.ls) (kK hK.out.ls) (aG _ _) ?_)
  intro y6 hP
  have S5:Hid _:=S4.out.put0 hP
  go_wp2_with(refine wpLr rfl 25 _ rfl g11 rfl _ (Iv .u8 s) _ _ (S5.out.at (.head _)) underlying25 rfl (aI hK.out.ls) ?_)
  refine(CI.out _ (S5.out.sl HS.out.1 HS.out.2)).mono ?_
  rintro x y7 ⟨rfl,hb7⟩
  have S2:Hid _:=S5.out.later hb7
  rcases hf:qX L s n with _|k
  ·have HF:Hid _:=hf
   simp only[ahF]
   have hb12:Hid _:=AE
   go_wp2_with(first
    | refine aN rfl 30 _ rfl (Iv .u8 (aA 12)) _ (by kernel_rfl) hb12.out ?_
    | refine wpPr rfl 30 _ _ rfl (n0+1) (Iv .u8 (aA 12)) rfl rfl _ _ (S2.out.at (.tail _ (.head _))) (iS rfl) rfl (aG _ _) ?_)
   intro y6 hP
   have S3:Hid _:=Sx.putK (R1:=[eQ g11 s]) S2.out hP
   go_wp2_with fail
   exact bodyPost_ret (v:=.tuple #[.int .i64 0,.agg (Iv .u8 (aA 12)),zQ MT 10]) (mW rfl _ _ _ _ (Iv .u8 (aA 12)) _ _ _ rfl rfl rfl (S3.out.at (.tail _ (.head _))) underlying30 rfl (iS rfl)) rfl (.inl ⟨_,_,m1,C2,H2,rfl,by decide,hK.out.lC2,hK.out.lH2,NX HE.out HO.out HF.out,S3.out.tn⟩)
  ·have HF:Hid _:=hf
   have hkn:k<n:=(IU hf).1
   simp only[ahF]
   go_wp2_with fail
   have S:Hid _:=S2.out.drew
   clear S2
   refine wRt 9 (fun v=>∃cs,Sx w b cs t [eQ g11 s,RU (n0+1) (aA 12),VE n0 r z] v) (.held [0,1,2,3] (.tail 4 (.held [5,6,7] (.tail 8 (.last 9 .done))))) dE (by kernel_rfl) ⟨_,S.out⟩ ?_
   obtain⟨y8,ey⟩:∃y,y=y7.drew:=⟨_,rfl⟩
   rw[←ey]at S⊢
   clear ey
   refine wTh ?_
   simp only[oS]
   refine aB rfl (.pointer (some ⟨b,0,none⟩)) (fun w'=>by kernel_rfl) ?_
   simp only[pS]
   refine wqLr rfl 25 _ rfl g11 rfl _ (Iv .u8 s) _ _ (fun w' hw'=>by obtain⟨m',hx⟩:=hw';exact hx.at (.head _)) underlying25 rfl (aI hK.out.ls) ?_
   simp only[pS]
   refine aB rfl (.pointer (some ⟨n0,81,none⟩)) (fun w'=>by kernel_rfl) ?_
   simp only[pS]
   refine aB rfl (.slice (some ⟨n0,81,none⟩) (12+16) 28) (fun w'=>by kernel_rfl) ?_
   simp only[pS]
   refine wqN ?_
   refine wTt ?_
   simp only[oS]
   go_wp2_with fail
   refine(CT.out _ n0 S.out.here (S.out.tabs HT.out hb3) (by have q:=oI (S.out.at (.tail _ (.tail _ (.head _)))) 80 28;rw[hK.out.eY]at q;exact Sl.of_range (Array.getElem?_eq_some_iff.1 (S.out.at (.tail _ (.tail _ (.head _))))).1 q) (by have:=hnb.out;omega)).mono ?_
   rintro x y9 (⟨hE2,rfl,hT⟩|⟨hE2,hO2,rfl,hT⟩|⟨hE2,hO2,g6,cap6,rfl,hg1,hg2,hg3,hS6,hT⟩)
   ·have S2:Hid _:=S.out.turn hT
    have HE2:Hid _:=hE2
    go_wp2_with fail
    refine⟨⟨_,S2.out⟩,?_⟩
    refine wTh ?_
    simp only[oS]
    refine aB rfl (.tuple #[.slice none 0 0,jU 29]) (fun w'=>by kernel_rfl) ?_
    simp only[pS]
    refine aB rfl (.slice none 0 0) (fun w'=>by kernel_rfl) ?_
    simp only[pS]
    refine aB rfl (jU 29) (fun w'=>by kernel_rfl) ?_
    simp only[pS]
    refine wqN ?_
    refine wTt ?_
    simp only[oS]
    go_wp2_with fail
    refine⟨⟨_,S2.out⟩,?_⟩
    refine wTl ?_
    simp only[oS]
    go_wp2_with fail
    refine aQ ?_
    have hb12:Hid _:=AE
    go_wp2_with(first
     | refine aN rfl 30 _ rfl (Iv .u8 (aA 12)) _ (by kernel_rfl) hb12.out ?_
     | refine wpPr rfl 30 _ _ rfl (n0+1) (Iv .u8 (aA 12)) rfl rfl _ _ (S2.out.at (.tail _ (.head _))) (iS rfl) rfl (aG _ _) ?_)
    intro y6 hP
    have S3:Hid _:=Sx.putK (R1:=[eQ g11 s]) S2.out hP
    go_wp2_with fail
    exact bodyPost_ret (v:=.tuple #[.int .i64 0,.agg (Iv .u8 (aA 12)),zQ SF 29]) (mW rfl _ _ _ _ (Iv .u8 (aA 12)) _ _ _ rfl rfl rfl (S3.out.at (.tail _ (.head _))) underlying30 rfl (iS rfl)) rfl (.inl ⟨_,_,m2,C2,H2,rfl,by decide,hK.out.lC2,hK.out.lH2,WS HE.out HO.out HF.out HE2.out,S3.out.tn⟩)
   ·have S2:Hid _:=S.out.turn hT
    have HE2:Hid _:=hE2
    have HO2:Hid _:=hO2
    go_wp2_with fail
    refine⟨⟨_,S2.out⟩,?_⟩
    refine wTh ?_
    simp only[oS]
    refine aB rfl (.tuple #[.slice none 0 0,jU 11]) (fun w'=>by kernel_rfl) ?_
    simp only[pS]
    refine aB rfl (.slice none 0 0) (fun w'=>by kernel_rfl) ?_
    simp only[pS]
    refine aB rfl (jU 11) (fun w'=>by kernel_rfl) ?_
    simp only[pS]
    refine wqN ?_
    refine wTt ?_
    simp only[oS]
    go_wp2_with fail
    refine⟨⟨_,S2.out⟩,?_⟩
    refine wTl ?_
    simp only[oS]
    go_wp2_with fail
    refine aQ ?_
    have hb12:Hid _:=AE
    go_wp2_with(first
     | refine aN rfl 30 _ rfl (Iv .u8 (aA 12)) _ (by kernel_rfl) hb12.out ?_
     | refine wpPr rfl 30 _ _ rfl (n0+1) (Iv .u8 (aA 12)) rfl rfl _ _ (S2.out.at (.tail _ (.head _))) (iS rfl) rfl (aG _ _) ?_)
    intro y6 hP
    have S3:Hid _:=Sx.putK (R1:=[eQ g11 s]) S2.out hP
    go_wp2_with fail
    exact bodyPost_ret (v:=.tuple #[.int .i64 0,.agg (Iv .u8 (aA 12)),zQ SF 11]) (mW rfl _ _ _ _ (Iv .u8 (aA 12)) _ _ _ rfl rfl rfl (S3.out.at (.tail _ (.head _))) underlying30 rfl (iS rfl)) rfl (.inl ⟨_,_,m2,C3,H2,rfl,by decide,hK.out.lC3,hK.out.lH2,WT HE.out HO.out HF.out HE2.out HO2.out,S3.out.tn⟩)
   ·have S2:Hid _:=S.out.turn hT
    have HE2:Hid _:=hE2
    have HO2:Hid _:=hO2
    have X0:Hid (Sl y9 g6 0 st):=hS6
    go_wp2_with fail
    refine⟨⟨_,S2.out⟩,?_⟩
    refine wTh ?_
    simp only[oS]
    refine aB rfl (.tuple #[.slice (some ⟨g6,0,none⟩) 12 cap6,.nilIface]) (fun w'=>by kernel_rfl) ?_
    simp only[pS]
    refine aB rfl (.slice (some ⟨g6,0,none⟩) 12 cap6) (fun w'=>by kernel_rfl) ?_
    simp only[pS]
    refine aB rfl (.nilIface) (fun w'=>by kernel_rfl) ?_
    simp only[pS]
    refine wqN ?_
    refine wTt ?_
    simp only[oS]
    go_wp2_with fail
    refine⟨⟨_,S2.out⟩,?_⟩
    refine wTl ?_
    simp only[oS]
    go_wp2_with fail
    refine aQ ?_
    go_wp2_with fail
    have S:Hid _:=S2.out.drew
    have X1:Hid (Sl y9.drew g6 0 st):=Sl.later X0.out (bDr (Below.refl _ _) 1) X0.out.1
    clear S2 X0
    refine wRt 5 (fun v=>Sx w b (dF C3 H3 (.int .i64 m2::G')) t [eQ g11 s,RU (n0+1) (aA 12),VE n0 r z] v∧Sl v g6 0 st) (.held [0,1,2,3] (.tail 4 (.last 5 (.last 6 .done)))) dE (by kernel_rfl) ⟨S.out,X1.out⟩ ?_
    obtain⟨y10,ey⟩:∃y,y=y9.drew:=⟨_,rfl⟩
    rw[←ey]at S X1⊢
    clear ey
    refine wTh ?_
    simp only[oS]
    refine aB rfl (.int .i64 (k:Int)) (fun w'=>by kernel_rfl) ?_
    simp only[pS]
    refine aB rfl (.slice (some ⟨g6,0,none⟩) 12 cap6) (fun w'=>by kernel_rfl) ?_
    simp only[pS]
    refine aB rfl (.pointer (some ⟨g6,0,none⟩)) (fun w'=>by kernel_rfl) ?_
    simp only[pS]
    refine wqLm rfl 30 _ rfl g6 0 rfl (dP st) _ (fun w' hw'=>by obtain⟨hx,h2⟩:=hw';exact h2.range) underlying30 rfl (by rw[aL,hK.out.lst];kernel_rfl) ?_
    simp only[pS]
    refine wqN ?_
    refine wTt ?_
    simp only[oS]
    go_wp2_with fail
    refine⟨⟨S.out,X1.out⟩,?_⟩
    refine wTl ?_
    simp only[oS]
    go_wp2_with(refine wpPr rfl 30 _ _ rfl (n0+1) (Iv .u8 st) rfl rfl _ _ (S.out.at (.tail _ (.head _))) (iS hK.out.lst) (akF hK.out.lst) (aG _ _) ?_)
    intro y11 hP
    have S3:Hid _:=Sx.putK (R1:=[eQ g11 s]) S.out hP
    refine wTl ?_
    simp only[oS]
    go_wp2_with fail
    refine aQ ?_
    go_wp2_with fail
    exact bodyPost_ret (v:=.tuple #[.int .i64 k,.agg (Iv .u8 st),.nilIface]) (mW rfl _ _ _ _ (Iv .u8 st) _ _ _ rfl rfl rfl (S3.out.at (.tail _ (.head _))) underlying30 rfl (iS hK.out.lst)) rfl (.inr ⟨k,hkn,rfl,NY HE.out HO.out HF.out HE2.out HO2.out,S3.out.tn⟩)
theorem lC (k who:Int) (st c h:LI) (m:Int):(mZ k who st c h m).toArray.all (·.oneCell')=true:=by simp[mZ,Value.oneCell']
theorem fZ {k who:Int} {st c h:LI} {m:Int} (hs:st.length=12) (hc:c.length=32) (hh:h.length=32):(prog.info? 44).map (·.size)=some (mZ k who st c h m).toArray.size:=by rw[List.size_toArray,FZ _ _ _ _ _ _ hs hc hh];kernel_rfl
theorem WF {k who:Int} {st c h:LI} {m:Int} (hs:st.length=12) (hc:c.length=32) (hh:h.length=32):(nW 0 0).toArray.size=(mZ k who st c h m).toArray.size:=by rw[List.size_toArray,List.size_toArray,FZ _ _ _ _ _ _ hs hc hh];rfl
theorem WC:∀W,(zeroValue 44).run prog W=.ok (.agg (nW 0 0).toArray) W:=fun W=>by kernel_rfl
theorem aiP:∀W,(zeroValue 70).run prog W=.ok (.agg (MU (aA 32) (aA 32) 0 (aA 32)).toArray) W:=fun W=>by kernel_rfl
theorem ahB {c h G:LI} {m:Int} (hc:c.length=32) (hh:h.length=32) (hG:G.length=32):(prog.info? 70).map (·.size)=some (MU c h m G).toArray.size:=by rw[List.size_toArray,OY hc hh hG];kernel_rfl
abbrev rRs (g:Nat) (c h:LI) (m:Int) (G:LI):Nat×Array Value×TypeId:=(g,(MU c h m G).toArray,70)
abbrev rCo (g:Nat) (v:List Value):Nat×Array Value×TypeId:=(g,v.toArray,44)
theorem pM {pu l z:LI} {m:Int} {e X Y C1 H1 p1 k1 C2 H2 s p2 k2 C3 H3 st:LI} {m1 m2:Int} (K:lZ DR (BV pu) l z m e X Y C1 H1 p1 k1 C2 H2 s p2 k2 C3 H3 st m1 m2) (hpl:pu.length=32) (hpb:aC pu) (r:Int) (L:LI) (n:Nat) (hL:L.length=n*32) (hn:n≤1048576) (kg kc:Nat) (w:World) (hS:Sl w kg 0 L) (ht:cN w) (he:gK w) (hw4:3<w.heap.size):
 Calls prog 11 #[.agg (Iv .u8 l),.agg (Iv .u8 pu),.slice (some ⟨kg,0,none⟩) n kc,.agg (WL r z).toArray,.int .i64 m] w fun x w'=>x=.returned (.agg (vG H1 X H2 Y p1 k1 s p2 k2 C3 H3 st L n m1 m2).toArray)∧Below w.heap.size w w':=by
 have CY:Hid (∀(W:World) (ht:cN W) (h4:3<W.heap.size),_):=fun W ht h4=>rL pu hpl hpb W ht h4
 obtain⟨c,ec⟩:∃c,DR=c:=⟨_,rfl⟩
 obtain⟨h,eh⟩:∃h,BV pu=h:=⟨_,rfl⟩
 rw[ec,eh]at K CY
 have CC:Hid (∀(b:Nat) (hb:3<b) (W:World) (hr:W.heap[b]? =some (.cells (dF c h (.int .i64 m::l.map (Value.int .u8))).toArray 70)) (ht:cN W) (hS:Sl W kg 0 L) (hne:kg≠b),_):=fun b hb W hr ht hS hne=>aaZ K r L n hL hn kg kc b hb 70 W hr ht hS hne
 have hK:Hid _:=K
 have HPL:Hid _:=hpl
 have HT:Hid (cN w):=ht
 have HE:Hid (gK w):=he
 have HS:Hid (Sl w kg 0 L):=hS
 have HN:Hid (n≤1048576):=hn
 clear K ht he ec eh hpl hpb hS hn hL
 have hz:=dM
 have hz12:∀W,(zeroValue 30).run prog W=.ok (.agg (Iv .u8 (aA 12))) W:=(zero_of_info (n:=12) (by kernel_rfl)).1
 have hzc:=WC
 have hzd:=aiP
 have F0:=((((Rn.start w).alloc' w.heap.size (by first|rfl|simp only[wU]) (Iv .u8 l) 25).alloc' (w.heap.size+1) (by first|rfl|simp only[wU]) (Iv .u8 pu) 25).alloc' (w.heap.size+1+1) (by first|rfl|simp only[wU]) (WL r z).toArray 37).alloc' (w.heap.size+1+1+1) (by first|rfl|simp only[wU]) (nW 0 0).toArray 44
 go_enter func11,ntmps11
 go_wp2_with fail
 obtain⟨n0,e0⟩:∃n,w.heap.size=n:=⟨_,rfl⟩
 rw[e0]at F0 hw4⊢
 obtain⟨W,hW⟩:∃W,(((w.alloc (.cells (Iv .u8 l) 25)).alloc (.cells (Iv .u8 pu) 25)).alloc (.cells (WL r z).toArray 37)).alloc (.cells (nW 0 0).toArray 44)=W:=⟨_,rfl⟩
 rw[hW]at F0⊢
 have S:Hid _:=F0.drew
 have E0:Hid _:=e0
 have H4:Hid (3<w.heap.size):=by show _<_;rw[e0];exact hw4
 clear hW F0 e0 hw4
 refine wRt 7 _ (.held [0,2,3,4] (.fork 1 (.held [5] (.tail 6 (.last 7 .done))) 6 (.tail 1 (.held [5] (.last 7 .done))))) dE (by kernel_rfl) S.out ?_
 obtain⟨y0,ey⟩:∃y,y=W.drew:=⟨_,rfl⟩
 rw[←ey]at S⊢
 clear ey
 refine wTh ?_
 simp only[oS]
 refine wqLr rfl 25 _ rfl (n0+1) rfl _ (Iv .u8 pu) _ _ (fun w' hw'=>hw'.at (.tail _ (.tail _ (.head _)))) underlying25 rfl (aI HPL.out) ?_
 simp only[pS]
 refine aB rfl (.int .i64 m) (fun w'=>by kernel_rfl) ?_
 simp only[pS]
 refine aB rfl (.agg #[.int .i64 m]) (fun w'=>by kernel_rfl) ?_
 simp only[pS]
 refine wqLr rfl 25 _ rfl (n0) rfl _ (Iv .u8 l) _ _ (fun w' hw'=>hw'.at (.tail _ (.tail _ (.tail _ (.head _))))) underlying25 rfl (aI hK.out.ll) ?_
 simp only[pS]
 refine wqN ?_
 apply cT (.last 7 .done) (fun g v'=>Rn w [rRs g (aA 32) (aA 32) 0 (aA 32),rCo (n0+1+1+1) (nW 0 0),VE (n0+1+1) r z,eQ (n0+1) pu,eQ n0 l] v')
 intro hZ
 ·refine wTf ?_ ?_
  ·simp only[oS]
   go_wp2_with fail
   refine(CY.out y0 (HT.out.later S.out.bel (nQ _)) (nJ H4.out S.out.bel.size)).mono ?_
   rintro x Z ⟨rfl,hb⟩
   have S2:Hid _:=S.out.later hb (nQ _)
   clear hb
   go_wp2_with fail
   refine⟨S2.out,?_⟩
   refine wTh ?_
   simp only[oS]
   refine bF rfl 70 _ rfl (MU c h m l).toArray _ (by kernel_rfl) (LK c h l m hK.out.lc hK.out.lh hK.out.ll) ?_
   simp only[pS]
   refine wqN ?_
   refine wTt ?_
   simp only[oS]
   go_wp2_with fail
   have S3:=S2.out.alloc (MU (aA 32) (aA 32) 0 (aA 32)).toArray 70
   refine⟨S3.tail,?_⟩
   obtain⟨g,eg⟩:∃g,g=Z.heap.size:=⟨_,rfl⟩
   rw[←eg]at S3⊢
   clear eg
   exact hZ.out g _ S3
  ·simp only[oS]
   go_wp2_with fail
   have S3:=S.out.alloc (MU (aA 32) (aA 32) 0 (aA 32)).toArray 70
   refine⟨S3.tail,?_⟩
   obtain⟨g,eg⟩:∃g,g=y0.heap.size:=⟨_,rfl⟩
   rw[←eg]at S3⊢
   clear eg
   have S4:Hid _:=S3
   clear S3
   refine wTt ?_
   simp only[oS]
   go_wp2_with fail
   refine(CY.out _ (HT.out.later S4.out.bel (nQ _)) (nJ H4.out S4.out.bel.size)).mono ?_
   rintro x Z ⟨rfl,hb⟩
   have S5:Hid _:=S4.out.later hb (nQ _)
   clear hb
   go_wp2_with fail
   refine⟨S5.out.tail,?_⟩
   refine wTh ?_
   simp only[oS]
   refine bF rfl 70 _ rfl (MU c h m l).toArray _ (by kernel_rfl) (LK c h l m hK.out.lc hK.out.lh hK.out.ll) ?_
   simp only[pS]
   refine wqN ?_
   exact hZ.out g _ S5.out
 intro g v1 H
 have S4:Hid _:=H
 clear H S CY
 refine wTl ?_
 simp only[oS]
 go_wp2_with(refine wpPr rfl 70 _ _ rfl g (MU c h m l).toArray rfl rfl _ _ (S4.out.at (.head _)) (ahB hK.out.lc hK.out.lh hK.out.ll) (akJ hK.out.lc hK.out.lh hK.out.ll) (agC _ _ _ _) ?_)
 intro v2 hP
 have F:Hid _:=S4.out.put0 hP
 clear hP S4
 refine aQ ?_
 go_wp2_with(refine wpLr rfl 37 _ rfl (n0+1+1) rfl _ (WL r z).toArray _ _ (F.out.at (.tail _ (.tail _ (.head _)))) underlying37 rfl (qV hK.out.lz) ?_)
 have hg3:3<g:=nJ H4.out (F.out.ge (.head _))
 have hkg:kg≠g:=by have h1:=HS.out.1;have h2:=F.out.ge (.head _);omega
 refine(CC.out g hg3 v2 (F.out.at (.head _)) (HT.out.later F.out.bel (nQ _)) (Sl.later HS.out F.out.bel HS.out.1) hkg).mono ?_
 clear hkg
 rintro x Z (⟨s',code,mm,cc,hh,rfl,hc30,lcc,lhh,hO,hT⟩|⟨k,hkn,rfl,hO,hT⟩)
 ·have EV:Hid _:=hO
  have F1:=Rn.turnK (R1:=[]) F.out hT
  have F4:Hid _:=F1.alloc (Iv .u8 (aA 12)) 30
  have LC:Hid (cc.length=32∧hh.length=32∧code≠30):=⟨lcc,lhh,hc30⟩
  clear hT F F1 CC hO lcc lhh hc30
  obtain⟨n2,e2⟩:∃n,Z.heap.size=n:=⟨_,rfl⟩
  rw[e2]at F4
  go_wp2_with(refine wpPr rfl 30 _ _ rfl n2 (Iv .u8 (aA 12)) rfl rfl _ _ (F4.out.at (.head _)) (iS rfl) rfl (aG _ _) ?_)
  intro Z2 hP
  have F5:Hid _:=F4.out.put0 hP
  clear hP F4 e2
  go_wp2_with fail
  refine(zE s' code Z2 (HE.out.later F5.out.bel (nQ _))).mono ?_
  rintro x Z3 ⟨rfl,hb⟩
  have F6:Hid _:=F5.out.later hb (nQ _)
  clear hb F5
  have hcm:=O2 (F6.out.at (.tail _ (.head _))) LC.out.1 LC.out.2.1
  have hbc:Hid _:=tE code mm
  have hne30:code≠30:=LC.out.2.2
  go_wp2_with(first
   | refine aN rfl 44 _ rfl (nW code mm).toArray _ (by kernel_rfl) hbc.out ?_
   | refine wpPr rfl 44 _ _ rfl (n0+1+1+1) (nW code mm).toArray rfl rfl _ _ (F6.out.at (.tail _ (.tail _ (.head _)))) (fZ rfl rfl rfl) rfl (lC _ _ _ _ _ _) ?_)
  intro Z4 hP
  have F7:Hid _:=F6.out.put2 hP
  clear hP F6 hcm
  go_wp2_with fail
  exact bodyPost_ret (v:=.agg (nW code mm).toArray) (results_cell_row rfl _ _ _ _ (nW code mm).toArray _ _ rfl (F7.out.at (.tail _ (.tail _ (.head _)))) underlying44 rfl (fZ rfl rfl rfl)) rfl ⟨by rw[EV.out],F7.out.bel⟩
 ·have EV:Hid _:=hO
  have F1:=Rn.turnK (R1:=[]) F.out hT
  have F4:Hid _:=F1.alloc (Iv .u8 (aA 12)) 30
  clear hT F F1 CC hO
  obtain⟨n2,e2⟩:∃n,Z.heap.size=n:=⟨_,rfl⟩
  rw[e2]at F4
  go_wp2_with(refine wpPr rfl 30 _ _ rfl n2 (Iv .u8 st) rfl rfl _ _ (F4.out.at (.head _)) (iS hK.out.lst) (akF hK.out.lst) (aG _ _) ?_)
  intro Z2 hP
  have F5:Hid _:=F4.out.put0 hP
  clear hP F4 e2
  go_wp2_with fail
  refine(IC Z2).mono ?_
  rintro x Z3 ⟨rfl,hb⟩
  have F6:Hid _:=F5.out.later hb (nQ _)
  clear hb F5
  have hcm:=O2 (F6.out.at (.tail _ (.head _))) hK.out.lC3 hK.out.lH3
  have hcc:Hid _:=afO (F6.out.at (.tail _ (.head _))) hK.out.lC3
  have hch:Hid _:=adK (F6.out.at (.tail _ (.head _))) hK.out.lC3 hK.out.lH3
  have hbc:Hid _:=abT 30 ((k:Int)+1) st C3 H3 m2 hK.out.lst hK.out.lC3 hK.out.lH3
  have hkw:IntKind.i64.wrap ((k:Int)+1)=(k:Int)+1:=by have h1:=HN.out;exact IntWalk.i64_in _ (by omega)
  go_wp2_with(first
   | refine wpLr rfl 30 _ rfl n2 rfl _ (Iv .u8 st) _ _ (F6.out.at (.head _)) underlying30 rfl (iS hK.out.lst) ?_
   | refine wpList_load_mid rfl 25 _ rfl g 0 rfl (C3.map (Value.int .u8)) _ hcc.out underlying25 rfl (dK hK.out.lC3) ?_
   | refine wpList_load_mid rfl 25 _ rfl g 32 rfl (H3.map (Value.int .u8)) _ hch.out underlying25 rfl (dK hK.out.lH3) ?_
   | refine aN rfl 44 _ rfl (mZ 30 ((k:Int)+1) st C3 H3 m2).toArray _ (by kernel_rfl) hbc.out ?_
   | refine wpPr rfl 44 _ _ rfl (n0+1+1+1) (mZ 30 ((k:Int)+1) st C3 H3 m2).toArray rfl rfl _ _ (F6.out.at (.tail _ (.tail _ (.head _)))) (fZ hK.out.lst hK.out.lC3 hK.out.lH3) (WF hK.out.lst hK.out.lC3 hK.out.lH3) (lC _ _ _ _ _ _) ?_)
  intro Z5 hP
  have F8:Hid _:=F6.out.put2 hP
  clear hP F6 hcm hcc hch hbc
  go_wp2_with fail
  exact bodyPost_ret (v:=.agg (mZ 30 ((k:Int)+1) st C3 H3 m2).toArray) (results_cell_row rfl _ _ _ _ (mZ 30 ((k:Int)+1) st C3 H3 m2).toArray _ _ rfl (F8.out.at (.tail _ (.tail _ (.head _)))) underlying44 rfl (fZ hK.out.lst hK.out.lC3 hK.out.lH3)) rfl ⟨by rw[EV.out],F8.out.bel⟩
theorem MQ {P:Program} {o:Oper} {ρ:Operand→Value} (t u:TypeId) (x:Operand) (ho:o.op=.convert t u x) (v:Value) (hx:ρ x=v) (r:Value) (w:World) (h:(convert t u v).run P w=.ok r w):(execOp ρ o).run P w=.ok (.value r) w:=by
 unfold execOp
 simp only[ho,hx,Sem.run_bind,h,Result.andThen_ok,Sem.run_pure]
theorem adA {P:Program} {o:Oper} {ρ:Operand→Value} (t:TypeId) (x y:Operand) (u:TypeId) (ho:o.op=.binOp .eql t x y u) (S T:ByteArray) (hx:ρ x=.string S) (hy:ρ y=.string T) (w:World):(execOp ρ o).run P w=.ok (.value (.bool (S.toList==T.toList))) w:=by
 unfold execOp
 simp[ho,hx,hy,go_sem]
theorem agQ (A M:LI) (hA:aC A) (hM:aC M) (hl:A.length=M.length):((⟨(Lib.bytesOf A).toArray⟩:ByteArray).toList==(⟨(Lib.bytesOf M).toArray⟩:ByteArray).toList)=decide (A=M):=by
 by_cases h:A=M
 ·subst h
  simp
 ·rw[decide_eq_false h,Go.ByteArray.toList_mk,Go.ByteArray.toList_mk,beq_eq_false_iff_ne]
  exact fun q=>h (YI A M hA hM hl (by rw[q]))
def ahG:Option Nat→Int
 | some k=>(k:Int)+1
 | none=>0
theorem U3 (L s:LI) (n:Nat) (hL:L.length=n*32) (hLb:aC L) (hs:s.length=32) (hsb:aC s) (hn:n≤1048576) (kg kc g cap:Nat) (w:World) (hS:Sl w kg 0 L) (hK:Sl w g 0 s):
 Calls prog 31 #[.slice (some ⟨kg,0,none⟩) n kc,.slice (some ⟨g,0,none⟩) 32 cap] w fun e w'=>e=.returned (.int .i64 (ahG (qX L s n)))∧Below w.heap.size w w':=by
 have HL:Hid _:=hL
 have HLB:Hid _:=hLb
 have H32:Hid _:=hs
 have HSB:Hid _:=hsb
 have HS:Hid _:=hS
 have HK:Hid _:=hK
 have hz:=dM
 clear hL hLb hs hsb hS hK
 go_enter func31,ntmps31
 go_wp2_with fail
 go_loopw [9] (fun i wr=>∃k:Nat,k≤n∧i=.int .i64 k∧(∀j,j<k→jK L j≠s)∧Below w.heap.size w wr) (fun i _=>n - (intOf i).toNat)
 case atStart=>exact⟨0,Nat.zero_le _,rfl,fun j hj=>absurd hj (Nat.not_lt_zero _),Below.refl _ _⟩
 case round=>
  obtain⟨k,hk,rfl,hb,hbr⟩:=hrel
  by_cases hlt:k<n
  ·have HBR:Hid _:=hbr
   have HBJ:Hid _:=hb
   have KL:Hid ((jK L k).length=32):=AZ HL.out hlt
   have KB:Hid (aC (jK L k)):=dB (cE HLB.out _) _
   have SK:Hid (wr.rangeAt kg (k*32) (dP (jK L k))):=by have q:=(Sl.later HS.out HBR.out HS.out.1).key HL.out hlt;rwa[Nat.zero_add]at q
   have hx:∀W,(Instr.indexAt 42 (.slice (some ⟨kg,0,none⟩) n kc) (.int .i64 (k:Int))).run prog W=.ok (.pointer (some ⟨kg,k*32,none⟩)) W:=fun W=>by have q:=MS kg 0 n kc k hlt W;rwa[Nat.zero_add]at q
   obtain⟨g6,e6⟩:∃n,wr.heap.size=n:=⟨_,rfl⟩
   have A0:Hid ((wr.alloc (.cells (Iv .u8 (aA 32)) 25)).heap[g6]? =some (.cells (Iv .u8 (aA 32)) 25)):=by show _=_;rw[←e6];exact hAN _ _
   have HA:Hid (Below w.heap.size w (wr.alloc (.cells (Iv .u8 (aA 32)) 25))∧w.heap.size≤g6):=⟨HBR.out.alloc HBR.out.size _,by rw[←e6];exact HBR.out.size⟩
   clear hbr hb
   go_wp2_with(first
    | refine wpList_load_mid rfl 25 _ rfl kg (k*32) rfl (dP (jK L k)) _ SK.out underlying25 rfl (QH HL.out hlt) ?_
    | refine wpPr rfl 25 _ _ rfl g6 (Iv .u8 (jK L k)) rfl rfl _ _ A0.out (aI KL.out) (kK KL.out) (aG _ _) ?_)
   intro w1 hP
   have R1:Hid _:=hP.here
   have HB1:Hid _:=hP.below _ _ HA.out.1 HA.out.2
   have hl1:Hid (g6<w1.heap.size):=(Array.getElem?_eq_some_iff.1 R1.out).1
   clear hP A0 HA e6 SK HBR
   go_wp2_with fail
   refine tC w1.heap.size w1 wG (by kernel_rfl) (Below.refl _ _) ?_
   have V0:Hid (∀w',Below w1.heap.size w1 w'→(convert 22 9 (.slice (some ⟨g6,0,none⟩) 32 32)).run prog w'=.ok (.string ⟨(Lib.bytesOf (jK L k)).toArray⟩) w'):=fun w' hw'=>by
    have h9:=GA (P:=prog) (w:=w') (Sl.of_row ((hw'.block _ hl1.out).trans R1.out)) KB.out 22 9 5 32 underlying22 underlying5 underlying9
    rw[KL.out]at h9
    exact h9
   have V1:Hid (∀w',Below w1.heap.size w1 w'→(convert 22 9 (.slice (some ⟨g,0,none⟩) 32 cap)).run prog w'=.ok (.string ⟨(Lib.bytesOf s).toArray⟩) w'):=fun w' hw'=>by
    have h9:=GA (P:=prog) (w:=w') (Sl.later (Sl.later HK.out HB1.out HK.out.1) hw' (Sl.later HK.out HB1.out HK.out.1).1) HSB.out 22 9 5 cap underlying22 underlying5 underlying9
    rw[H32.out]at h9
    exact h9
   have hq:=agQ (jK L k) s KB.out HSB.out (by rw[KL.out,H32.out])
   refine aB rfl (.slice (some ⟨g6,0,none⟩) 32 32) (fun w'=>by kernel_rfl) ?_
   simp only[pS]
   refine dL rfl (.string ⟨(Lib.bytesOf (jK L k)).toArray⟩) (fun w' hw'=>by obtain⟨y,rfl⟩:=hw';exact MQ 22 9 _ rfl (.slice (some ⟨g6,0,none⟩) 32 32) rfl _ _ (V0.out _ y.bel)) ?_
   simp only[pS]
   refine aB rfl (.slice (some ⟨g,0,none⟩) 32 cap) (fun w'=>by kernel_rfl) ?_
   simp only[pS]
   refine dL rfl (.string ⟨(Lib.bytesOf s).toArray⟩) (fun w' hw'=>by obtain⟨y,rfl⟩:=hw';exact MQ 22 9 _ rfl (.slice (some ⟨g,0,none⟩) 32 cap) rfl _ _ (V1.out _ y.bel)) ?_
   simp only[pS]
   refine aB rfl (.bool (decide (jK L k=s))) (fun w'=>by rw[←hq];exact adA _ _ _ _ rfl _ _ rfl rfl w') ?_
   simp only[pS]
   refine wqN ?_
   intro w2 hw2
   have HB2:Hid (Below w.heap.size w w2):=HB1.out.trans (hw2.mono HB1.out.size)
   clear hw2 HB1 V0 V1 hq
   by_cases he:jK L k=s
   ·have hd:=decide_eq_true he
    have HF:Hid _:=zJ hlt he HBJ.out
    rw[hd]
    have hkw:IntKind.i64.wrap ((k:Int)+1)=(k:Int)+1:=IntWalk.i64_in _ (by omega)
    clear hd he HBJ
    go_wp2_with fail
    exact bodyPost_ret (v:=.int .i64 ((k:Int)+1)) (by kernel_rfl) rfl ⟨by rw[HF.out];rfl,HB2.out⟩
   ·have hd:=decide_eq_false he
    rw[hd]
    clear hd
    have HE:Hid (jK L k≠s):=he
    clear he
    go_wp2_with fail
    go_roundw
    case rel=>exact⟨k+1,by omega,by go_num,fun j hj=>if h:j=k then h▸HE.out else HBJ.out j (by omega),HB2.out⟩
    case measure=>simp[intOf];omega
  ·have hkn:k=n:=by omega
   subst hkn
   have HF:Hid _:=zI hb
   have HBR:Hid _:=hbr
   clear hbr hb
   go_wp2_with fail
   exact bodyPost_ret (v:=.int .i64 0) (by kernel_rfl) rfl ⟨by rw[HF.out];rfl,HBR.out⟩
end Go.Proofs.YtmjccemdldidaaaGreatDoor
