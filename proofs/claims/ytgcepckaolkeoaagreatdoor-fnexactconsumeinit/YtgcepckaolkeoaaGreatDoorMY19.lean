import Derived.Test.YtgcepckaolkeoaaGreatDoorMY18
namespace Go.Proofs.YtgcepckaolkeoaaGreatDoor
open Go.RowKit
open Go.Proofs.Tryz
open Go renaming heap_alloc_new → hAN, wpList_load_row → wpLr, wpQuiet_nil → wqN
open List renaming length_append → lQ, length_map → lU, mem_cons_of_mem → mC, mem_cons_self → mQ, nil_append → nA, not_mem_nil → nY, take_zero → tJ
open Nat renaming le_refl → nQ
set_option linter.unusedVariables false
def mB (l:List Int):Nat→List Int
 | 0=>[1,0,0,0,0]
 | m+1=>if 254 - m=2∨254 - m=4 then cX (mB l m) (mB l m)else cX (cX (mB l m) (mB l m)) l
theorem i4 (n:Int) (h:0≤n∧n<2251799813685248):bU [n,0,0,0,0] n:=by
 refine⟨⟨by omega,by decide,by decide,by decide,by decide⟩,0,?_⟩
 show mN n 0 0 0 0=_
 unfold mN
 omega
theorem O3 (v:Int):prog.built 211 [(0,.int .u64 v)]=some (Iv .u64 [v,0,0,0,0]):=by kernel_rfl
theorem ZD:∀W,(zeroValue 211).run prog W=.ok (.agg (Iv .u64 [0,0,0,0,0])) W:=(zero_of_info (n:=5) (by kernel_rfl)).1
theorem aaB (j:Int) (h0:0≤j) (h1:j≤254) (h2:j≠2) (h3:j≠4):bits .and .u64 (20 / 2^min j.toNat 64) 1=0:=by
 obtain⟨n,rfl⟩:∃n:Nat,j=n:=⟨j.toNat,by omega⟩
 rw[Int.toNat_natCast]
 by_cases h:n<5
 ·have h5:n=0∨n=1∨n=3:=by omega
  rcases h5 with rfl|rfl|rfl<;>exact of_decide_eq_true (by kernel_rfl)
 ·have hp:(20:Int) / 2^min n 64=0:=by
   refine Int.ediv_eq_zero_of_lt (by decide) ?_
   obtain⟨r,hr⟩:∃r,min n 64=5+r:=⟨min n 64 - 5,by omega⟩
   rw[hr,Int.pow_add]
   have:(0:Int)<2^r:=Int.pow_pos (by decide)
   omega
  rw[hp]
  exact of_decide_eq_true (by kernel_rfl)
theorem bU.pow {l:List Int} {x:Int} (h:bU l x):∀m,bU (mB l m) (CL x m)
 | 0=>i4 1 (by decide)
 | m+1=>by
   have ih:=bU.pow h m
   unfold mB CL
   split
   ·exact ih.times ih
   ·exact(ih.times ih).times h
theorem T9 {l:List Int} {m:Nat} (h:254 - m=2∨254 - m=4):mB l (m+1)=cX (mB l m) (mB l m):=by rw[mB,if_pos h]
theorem T8 {l:List Int} {m:Nat} (h:¬(254 - m=2∨254 - m=4)):mB l (m+1)=cX (cX (mB l m) (mB l m)) l:=by rw[mB,if_neg h]
theorem aaJ {l:List Int} (h:fY l) (m:Nat):fY (mB l m):=(((show bU l (vL l)from⟨h,0,by omega⟩)).pow m).1
set_option maxRecDepth 10000 in
set_option maxHeartbeats 4000000 in
theorem MU (a:List Int) (ha:fY a) (w:World):
 Calls prog 125 #[.agg (Iv .u64 a)] w fun e w'=>e=.returned (.agg (Iv .u64 (mB a 255)))∧Below w.heap.size w w':=by
 have hzv:=ZD
 have hi:Hid (∀l:List Int,l.length=5→(prog.info? 211).map (·.size)=some (Iv .u64 l).size):=fun l hl=>bC hl
 have HA:Hid (fY a):=ha
 have HF:Hid _:=fun m=>aaJ ha m
 have hal:Hid (a.length=5):=ha.length
 clear ha
 have hlen:Hid (∀m,(mB a m).length=5):=fun m=>(HF.out m).length
 have hbu:=O3 1
 obtain⟨W,hW,g0,g1,g2,hsz,hB⟩:=oF w (.cells (Iv .u64 a) 211) (.cells (Iv .u64 [0,0,0,0,0]) 211) (.cells (Iv .u64 [0,0,0,0,0]) 211)
 have F0:Hid (Rw w [((w.heap.size+1+1),Iv .u64 [0,0,0,0,0],211),((w.heap.size+1),Iv .u64 [0,0,0,0,0],211),(w.heap.size,Iv .u64 a,211)] W):=
  ⟨hB,fun r hr=>by
   simp only[List.mem_cons,nY,or_false]at hr
   rcases hr with rfl|rfl|rfl
   ·exact⟨by simp only;omega,by simp only;omega,g2⟩
   ·exact⟨by simp only;omega,by simp only;omega,g1⟩
   ·exact⟨by simp only;omega,by simp only;omega,g0⟩⟩
 have HW:Hid _:=hW
 have KA:Hid ((((w.alloc (.cells (Iv .u64 a) 211)).alloc (.cells (Iv .u64 [0,0,0,0,0]) 211)).alloc (.cells (Iv .u64 [0,0,0,0,0]) 211)).heap[(w.heap.size+1+1)]? =some (.cells (Iv .u64 [0,0,0,0,0]) 211)):=by show _=_;rw[hW];exact g2
 clear hW g0 g1 g2 hB hsz
 go_enter func125,ntmps125
 go_wp2_with(refine wpPr rfl 211 _ _ rfl (w.heap.size+1+1) (Iv .u64 [1,0,0,0,0]) rfl rfl _ _ KA.out (hi.out _ rfl) (JY rfl) (aG _ _) (fun W1 hP=>sH ?_))
 refine aH ?_
 have F1:Hid (Rw w [((w.heap.size+1+1),Iv .u64 (mB a 0),211),((w.heap.size+1),Iv .u64 [0,0,0,0,0],211),(w.heap.size,Iv .u64 a,211)] W1):=by
  rw[HW.out]at hP
  exact Rw.put F0.out hP (fun r hr=>by simp only[List.mem_cons,nY,or_false]at hr;rcases hr with rfl|rfl<;>(simp only;omega))
 clear hP F0 KA HW hbu
 go_wp2_with fail
 go_loopw [4] (fun i wr=>∃(j:Int) (m:Nat),j+m=254∧m≤255∧i=.int .i64 j∧Rw w [((w.heap.size+1+1),Iv .u64 (mB a m),211),((w.heap.size+1),Iv .u64 [0,0,0,0,0],211),(w.heap.size,Iv .u64 a,211)] wr) (fun i _=>(intOf i+1).toNat)
 case atStart=>exact⟨254,0,by decide,by decide,rfl,F1.out⟩
 case round=>
  obtain⟨j,m,hjm,hm,rfl,hF⟩:=hrel
  have F2:Hid _:=hF
  clear hF F1
  by_cases hj:0≤j
  ·have hj2:j≤254:=by omega
   have HP:Hid _:=HF.out m
   obtain⟨p,ep⟩:∃x,mB a m=x:=⟨_,rfl⟩
   have hpl:Hid (p.length=5):=by show _=_;rw[←ep];exact hlen.out m
   rw[ep]at F2 HP
   have EP:Hid _:=ep
   clear ep
   have G2:Hid _:=(F2.out.row _ mQ).2.2
   go_wp2_with(with_reducible refine aJ ?_;refine wpLr rfl 211 _ rfl (w.heap.size+1+1) rfl _ (Iv .u64 p) _ _ G2.out underlying211 rfl (hi.out p hpl.out) ?_)
   refine(fX p p HP.out HP.out _).mono ?_
   rintro e Z ⟨rfl,hb⟩
   have F3:Hid (Rw w [((w.heap.size+1+1),Iv .u64 p,211),((w.heap.size+1),Iv .u64 [0,0,0,0,0],211),(w.heap.size,Iv .u64 a,211)] Z):=F2.out.later hb (nQ _)
   clear hb F2 G2
   obtain⟨s,es⟩:∃x,cX p p=x:=⟨_,rfl⟩
   have HS:Hid (fY s):=by show fY s;rw[←es];exact(wD p p HP.out HP.out).1
   have hsl:Hid (s.length=5):=HS.out.length
   rw[es]
   have ES:Hid _:=es
   clear es
   have G3:Hid _:=(F3.out.row _ mQ).2.2
   go_wp2_with(refine wpPr rfl 211 _ _ rfl (w.heap.size+1+1) (Iv .u64 s) rfl rfl _ _ G3.out (hi.out s hsl.out) (by rw[aD,aD,hpl.out,hsl.out]) (aG _ _) (fun Z1 hP=>sH ?_))
   refine aH ?_
   have F4:Hid (Rw w [((w.heap.size+1+1),Iv .u64 s,211),((w.heap.size+1),Iv .u64 [0,0,0,0,0],211),(w.heap.size,Iv .u64 a,211)] Z1):=Rw.put F3.out hP (fun r hr=>by simp only[List.mem_cons,nY,or_false]at hr;rcases hr with rfl|rfl<;>(simp only;omega))
   clear hP F3 G3
   by_cases hc:j=2∨j=4
   ·have e1:Hid (mB a (m+1)=s):=by show _=_;rw[T9 (by omega),EP.out,ES.out]
    rcases hc with rfl|rfl
    all_goals go_wp2
    all_goals go_roundw
    case rel=>exact⟨1,m+1,by omega,by omega,by go_num,by rw[e1.out];exact F4.out⟩
    case measure=>simp[intOf]
    case rel=>exact⟨3,m+1,by omega,by omega,by go_num,by rw[e1.out];exact F4.out⟩
    case measure=>simp[intOf]
   ·have e1:Hid (mB a (m+1)=cX s a):=by show _=_;rw[T8 (by omega),EP.out,ES.out]
    have hj3:(j=2)=False:=by simp;omega
    have hj4:(j=4)=False:=by simp;omega
    have hj5:(j !=2)=true:=by simp;omega
    have hj6:(j !=4)=true:=by simp;omega
    have hsh:=aaB j hj hj2 (by omega) (by omega)
    have G4:Hid _:=(F4.out.row _ mQ).2.2
    have G5:Hid _:=(F4.out.row _ (mC _ (mC _ mQ))).2.2
    go_wp2_with(with_reducible refine aJ ?_;first
     | refine wpLr rfl 211 _ rfl (w.heap.size+1+1) rfl _ (Iv .u64 s) _ _ G4.out underlying211 rfl (hi.out s hsl.out) ?_
     | refine wpLr rfl 211 _ rfl w.heap.size rfl _ (Iv .u64 a) _ _ G5.out underlying211 rfl (hi.out a hal.out) ?_)
    refine(fX s a HS.out HA.out _).mono ?_
    rintro e Z2 ⟨rfl,hb⟩
    have F5:Hid (Rw w [((w.heap.size+1+1),Iv .u64 s,211),((w.heap.size+1),Iv .u64 [0,0,0,0,0],211),(w.heap.size,Iv .u64 a,211)] Z2):=F4.out.later hb (nQ _)
    clear hb F4 G4 G5
    obtain⟨t,et⟩:∃x,cX s a=x:=⟨_,rfl⟩
    have htl:Hid (t.length=5):=by show _=_;rw[←et];exact(wD s a HS.out HA.out).1.length
    rw[et]at e1⊢
    clear et
    have G6:Hid _:=(F5.out.row _ mQ).2.2
    go_wp2_with(refine wpPr rfl 211 _ _ rfl (w.heap.size+1+1) (Iv .u64 t) rfl rfl _ _ G6.out (hi.out t htl.out) (by rw[aD,aD,hsl.out,htl.out]) (aG _ _) (fun Z3 hP=>sH ?_))
    refine aH ?_
    have F6:Hid (Rw w [((w.heap.size+1+1),Iv .u64 t,211),((w.heap.size+1),Iv .u64 [0,0,0,0,0],211),(w.heap.size,Iv .u64 a,211)] Z3):=Rw.put F5.out hP (fun r hr=>by simp only[List.mem_cons,nY,or_false]at hr;rcases hr with rfl|rfl<;>(simp only;omega))
    clear hP F5 G6
    go_wp2
    go_roundw
    case rel=>exact⟨j - 1,m+1,by omega,by omega,by go_num,by rw[e1.out];exact F6.out⟩
    case measure=>simp[intOf];omega
  ·obtain rfl:m=255:=by omega
   have G7:Hid _:=(F2.out.row _ mQ).2.2
   have G8:Hid _:=(F2.out.row _ (mC _ mQ)).2.2
   have B2:Hid _:=F2.out.bel
   have hrl:Hid _:=hlen.out 255
   clear F2 HF hlen
   obtain⟨r,er⟩:∃x,mB a 255=x:=⟨_,rfl⟩
   rw[er]at G7 hrl
   have ER:Hid _:=er
   clear er
   go_wp2_with(first
    | refine wpLr rfl 211 _ rfl (w.heap.size+1+1) rfl _ (Iv .u64 r) _ _ G7.out underlying211 rfl (hi.out r hrl.out) ?_
    | refine wpPr rfl 211 _ _ rfl (w.heap.size+1) (Iv .u64 r) rfl rfl _ _ G8.out (hi.out r hrl.out) (JY hrl.out) (aG _ _) (fun W9 hP=>sH ?_))
   refine aH ?_
   have B9:=hP.below _ _ B2.out (by omega)
   have G9:=hP.here
   go_wp2
   exact bodyPost_ret (v:=.agg (Iv .u64 r)) (results_cell_row rfl _ _ _ _ (Iv .u64 r) _ _ rfl G9 underlying211 rfl (hi.out r hrl.out)) rfl ⟨by rw[ER.out],B9⟩
def lsA (q:fZ):List Int:=sG q.x1 q.z1
def lsB (q:fZ):List Int:=m7 q.x1 q.z1
def lsC (q:fZ):List Int:=sG q.x2 q.z2
def lsD (q:fZ):List Int:=m7 q.x2 q.z2
def aaP (q:fZ):List Int:=cX (lsA q) (lsA q)
def acT (q:fZ):List Int:=cX (lsB q) (lsB q)
def lsE (q:fZ):List Int:=m7 (aaP q) (acT q)
def acV (q:fZ):List Int:=cX (lsD q) (lsA q)
def acU (q:fZ):List Int:=cX (lsC q) (lsB q)
def lsS (q:fZ):List Int:=sG (acV q) (acU q)
def lsF (q:fZ):List Int:=m7 (acV q) (acU q)
def mT (u:List Int) (q:fZ):fZ:=⟨cX (aaP q) (acT q),cX (lsE q) (sG (aaP q) (cX (lsE q) [121665,0,0,0,0])),cX (lsS q) (lsS q),cX u (cX (lsF q) (lsF q))⟩
def FT (q:fZ):fZ:=⟨q.x2,q.z2,q.x1,q.z1⟩
def m5 (k u:List Int):Nat→fZ
 | 0=>⟨[1,0,0,0,0],[0,0,0,0,0],u,[1,0,0,0,0]⟩
 | m+1=>if k.getD ((254 - m) / 8) 0 / 2^((254 - m)%8)%2=1 then FT (mT u (FT (m5 k u m)))else mT u (m5 k u m)
structure QY (q:fZ) (n:OJ):Prop where
 x1:bU q.x1 n.x1
 z1:bU q.z1 n.z1
 x2:bU q.x2 n.x2
 z2:bU q.z2 n.z2
theorem QY.step {u:List Int} {q:fZ} {n:OJ} {y:Int} (hu:bU u y) (h:QY q n):QY (mT u q) ⟨dblX n.x1 n.z1,dblZ n.x1 n.z1,sumX n.x1 n.z1 n.x2 n.z2,sumZ n.x1 n.z1 n.x2 n.z2 y⟩:=by
 obtain⟨h1,h2,h3,h4⟩:=h
 have ha:bU (lsA q) _:=h1.plus h2
 have hb:bU (lsB q) _:=h1.minus h2
 have hc:bU (lsC q) _:=h3.plus h4
 have hd:bU (lsD q) _:=h3.minus h4
 have haa:bU (aaP q) _:=ha.times ha
 have hbb:bU (acT q) _:=hb.times hb
 have he:bU (lsE q) _:=haa.minus hbb
 have hda:bU (acV q) _:=hd.times ha
 have hcb:bU (acU q) _:=hc.times hb
 have hs:bU (lsS q) _:=hda.plus hcb
 have hf:bU (lsF q) _:=hda.minus hcb
 refine⟨haa.times hbb,?_,hs.times hs,hu.times (hf.times hf)⟩
 have h9:=he.times (haa.plus (he.times (i4 121665 (by decide))))
 have e9:dblZ n.x1 n.z1=((n.x1+n.z1)*(n.x1+n.z1) - (n.x1 - n.z1)*(n.x1 - n.z1))*((n.x1+n.z1)*(n.x1+n.z1)+((n.x1+n.z1)*(n.x1+n.z1) - (n.x1 - n.z1)*(n.x1 - n.z1))*121665):=by
  unfold dblZ dblE
  rw[Int.mul_comm 121665]
 show bU _ (dblZ n.x1 n.z1)
 rw[e9]
 exact h9
theorem QY.swap {q:fZ} {n:OJ} (h:QY q n):QY (FT q) ⟨n.x2,n.z2,n.x1,n.z1⟩:=⟨h.x2,h.z2,h.x1,h.z1⟩
theorem RU (k u:List Int) (y:Int) (hu:bU u y) (bit:Nat→Bool) (hbit:∀n,n≤254→(bit n=true↔k.getD (n / 8) 0 / 2^(n%8)%2=1)):∀m,m≤255→QY (m5 k u m) (mS bit y m)
 | 0,_=>⟨i4 1 (by decide),i4 0 (by decide),hu,i4 1 (by decide)⟩
 | m+1,hm=>by
   have ih:=RU k u y hu bit hbit m (by omega)
   have hb:=hbit (254 - m) (by omega)
   unfold m5 mS
   by_cases h:k.getD ((254 - m) / 8) 0 / 2^((254 - m)%8)%2=1
   ·rw[if_pos h,if_pos (hb.2 h)]
    have h1:=(ih.swap.step hu).swap
    rw[V7 (mS bit y m).x1,V8 (mS bit y m).x1]
    exact h1
   ·rw[if_neg h,if_neg (fun hx=>h (hb.1 hx))]
    exact ih.step hu
theorem QY.el {q:fZ} {n:OJ} (h:QY q n):fY q.x1∧fY q.z1∧fY q.x2∧fY q.z2:=⟨h.x1.1,h.z1.1,h.x2.1,h.z2.1⟩
theorem bU.self {l:List Int} (h:fY l):bU l (vL l):=⟨h,0,by omega⟩
structure LX (q:fZ):Prop where
 x1:fY q.x1
 z1:fY q.z1
 x2:fY q.x2
 z2:fY q.z2
theorem zI {a b:List Int} (ha:fY a) (hb:fY b):fY (sG a b):=(NS a b ha hb).1
theorem vQ {a b:List Int} (ha:fY a) (hb:fY b):fY (m7 a b):=(I6 a b ha hb).1
theorem jC {a b:List Int} (ha:fY a) (hb:fY b):fY (cX a b):=(wD a b ha hb).1
theorem LX.stands {q:fZ} (h:LX q):QY q ⟨vL q.x1,vL q.z1,vL q.x2,vL q.z2⟩:=⟨.self h.x1,.self h.z1,.self h.x2,.self h.z2⟩
theorem QY.qel {q:fZ} {n:OJ} (h:QY q n):LX q:=⟨h.x1.1,h.z1.1,h.x2.1,h.z2.1⟩
theorem LX.step {u:List Int} {q:fZ} (hu:fY u) (h:LX q):LX (mT u q):=(h.stands.step (.self hu)).qel
theorem LX.swap {q:fZ} (h:LX q):LX (FT q):=⟨h.x2,h.z2,h.x1,h.z1⟩
theorem aaN (k u:List Int) (hu:fY u) (m:Nat):LX (m5 k u m):=by
 induction m with
 | zero=>exact⟨(i4 1 (by decide)).1,(i4 0 (by decide)).1,hu,(i4 1 (by decide)).1⟩
 | succ m ih=>
   unfold m5
   split
   ·exact(ih.swap.step hu).swap
   ·exact ih.step hu
set_option maxRecDepth 10000 in
set_option maxHeartbeats 4000000 in
theorem VE (l u x1 z1 x2 z2:List Int) (hl:l.length=32) (hb:aE l) (hu:Dg u) (h1:Dg x1) (h2:Dg z1) (h3:Dg x2) (h4:Dg z2) (n:Nat) (hn:n≤254)
 (ih:∀W,Calls prog 54 #[.agg (Iv .u8 l),.int .i64 ((n:Int)+1),.agg (Iv .i64 u)] W fun e w'=>e=.returned (.tuple #[.agg (Iv .i64 (x1++z1)),.agg (Iv .i64 (x2++z2))])∧Below W.heap.size W w') (w:World):
 Calls prog 54 #[.agg (Iv .u8 l),.int .i64 n,.agg (Iv .i64 u)] w fun e w'=>e=.returned (.tuple #[.agg (Iv .i64 (if mP l n=1 then sK x1 z1 x2 z2++sL x1 z1 x2 z2 u else oM x1 z1++oO x1 z1)),.agg (Iv .i64 (if mP l n=1 then oM x2 z2++oO x2 z2 else sK x1 z1 x2 z2++sL x1 z1 x2 z2 u))])∧Below w.heap.size w w':=by
 have hzp:=GD
 have lu:Hid (u.length=16):=hu.1
 have ll:Hid (l.length=32):=hl
 have l1:Hid ((x1++z1).length=32):=by show _=_;rw[lQ,h1.1,h2.1]
 have l2:Hid ((x2++z2).length=32):=by show _=_;rw[lQ,h3.1,h4.1]
 have CS:Hid (∀W,_):=fun W=>abA x1 z1 x2 z2 u h1 h2 h3 h4 hu W
 have CD1:Hid (∀W,_):=fun W=>RI x1 z1 h1 h2 W
 have CD2:Hid (∀W,_):=fun W=>RI x2 z2 h3 h4 W
 have CB:Hid (∀W,_):=fun W=>ZQ l n hl hb (by omega) W
 have IH:Hid (∀W,_):=ih
 have lS:Hid ((sK x1 z1 x2 z2++sL x1 z1 x2 z2 u).length=32):=by
  show _=_
  have a1:=qT h1 h2
  have a2:=nH h1 h2
  have a3:=qT h3 h4
  have a4:=nH h3 h4
  have a5:=gL a4 a1
  have a6:=gL a3 a2
  have a7:=qT a5 a6
  have a8:=nH a5 a6
  rw[lQ,show(sK x1 z1 x2 z2).length=16 from(gL a7 a7).1,show(sL x1 z1 x2 z2 u).length=16 from(gL hu (gL a8 a8)).1]
 have lD:∀x z,Dg x→Dg z→(oM x z++oO x z).length=32:=fun x z hx hz=>by
  have a1:=qT hx hz
  have a2:=nH hx hz
  have a3:=gL a1 a1
  have a4:=gL a2 a2
  have a5:=nH a3 a4
  rw[lQ,show(oM x z).length=16 from(gL a3 a4).1,show(oO x z).length=16 from(gL a5 (RK a3 a5)).1]
 have lD1:Hid ((oM x1 z1++oO x1 z1).length=32):=lD _ _ h1 h2
 have lD2:Hid ((oM x2 z2++oO x2 z2).length=32):=lD _ _ h3 h4
 clear lD h1 h2 h3 h4 hu hl hb ih
 have hn1:((n:Int)==255)=false:=by simp;omega
 have hn2:(n:Int)≤254:=by omega
 generalize x1++z1=p1 at*
 generalize x2++z2=p2 at*
 generalize sK x1 z1 x2 z2++sL x1 z1 x2 z2 u=s at*
 generalize oM x1 z1++oO x1 z1=d1 at*
 generalize oM x2 z2++oO x2 z2=d2 at*
 obtain⟨W,hW,g0,g1,g2,g3,hsz,hBe⟩:=qZ w (.cells (Iv .u8 l) 22) (.cells (Iv .i64 u) 108) (.cells (Iv .i64 (aA 32)) 110) (.cells (Iv .i64 (aA 32)) 110)
 have F0:Hid (Rw w [(w.heap.size+1+1+1,Iv .i64 (aA 32),110),(w.heap.size+1+1,Iv .i64 (aA 32),110),(w.heap.size+1,Iv .i64 u,108),(w.heap.size,Iv .u8 l,22)] W):=
  ⟨hBe,fun r hr=>by
   simp only[List.mem_cons,nY,or_false]at hr
   rcases hr with rfl|rfl|rfl|rfl
   ·exact⟨by simp only;omega,by simp only;omega,g3⟩
   ·exact⟨by simp only;omega,by simp only;omega,g2⟩
   ·exact⟨by simp only;omega,by simp only;omega,g1⟩
   ·exact⟨by simp only;omega,by simp only;omega,g0⟩⟩
 have HW:Hid _:=hW
 have G0:Hid (((((w.alloc (.cells (Iv .u8 l) 22)).alloc (.cells (Iv .i64 u) 108)).alloc (.cells (Iv .i64 (aA 32)) 110)).alloc (.cells (Iv .i64 (aA 32)) 110)).heap[w.heap.size]? =some (.cells (Iv .u8 l) 22)):=by show _=_;rw[hW];exact g0
 have G1:Hid (((((w.alloc (.cells (Iv .u8 l) 22)).alloc (.cells (Iv .i64 u) 108)).alloc (.cells (Iv .i64 (aA 32)) 110)).alloc (.cells (Iv .i64 (aA 32)) 110)).heap[w.heap.size+1]? =some (.cells (Iv .i64 u) 108)):=by show _=_;rw[hW];exact g1
 clear hW g0 g1 g2 g3 hsz hBe
 go_enter func54,ntmps54
 go_wp2_with(with_reducible refine aJ ?_;first
  | refine wpLr rfl 22 _ rfl w.heap.size rfl _ (Iv .u8 l) _ _ G0.out underlying22 rfl (eJ ll.out) ?_
  | refine wpLr rfl 108 _ rfl (w.heap.size+1) rfl _ (Iv .i64 u) _ _ G1.out underlying108 rfl (aT lu.out) ?_)
 refine(IH.out _).mono ?_
 rintro e Z ⟨rfl,hb⟩
 rw[HW.out]at hb
 have F1:Hid (Rw w [(w.heap.size+1+1+1,Iv .i64 (aA 32),110),(w.heap.size+1+1,Iv .i64 (aA 32),110),(w.heap.size+1,Iv .i64 u,108),(w.heap.size,Iv .u8 l,22)] Z):=F0.out.later hb (nQ _)
 clear hb F0 HW G0 G1 IH
 have KA:Hid (((Z.alloc (.cells (Iv .i64 (aA 32)) 110)).alloc (.cells (Iv .i64 (aA 32)) 110)).heap[Z.heap.size]? =some (.cells (Iv .i64 (aA 32)) 110)):=by
  obtain⟨Y,hY,k0,k1,_,_⟩:=kX Z (.cells (Iv .i64 (aA 32)) 110) (.cells (Iv .i64 (aA 32)) 110)
  show _=_
  rw[hY]
  exact k0
 have F2a:Hid (Rw w [(Z.heap.size+1,Iv .i64 (aA 32),110),(Z.heap.size,Iv .i64 (aA 32),110),(w.heap.size+1+1+1,Iv .i64 (aA 32),110),(w.heap.size+1+1,Iv .i64 (aA 32),110),(w.heap.size+1,Iv .i64 u,108),(w.heap.size,Iv .u8 l,22)] ((Z.alloc (.cells (Iv .i64 (aA 32)) 110)).alloc (.cells (Iv .i64 (aA 32)) 110))):=by
  have h1:=(F1.out.alloc (Iv .i64 (aA 32)) 110).alloc (Iv .i64 (aA 32)) 110
  rw[show(Z.alloc (.cells (Iv .i64 (aA 32)) 110)).heap.size=Z.heap.size+1 by simp]at h1
  exact h1
 have hZs:=F1.out.size
 have hZ3:w.heap.size+1+1+1<Z.heap.size:=(F1.out.row _ mQ).2.1
 clear F1
 go_wp2_with(refine wpPr rfl 110 _ _ rfl Z.heap.size (Iv .i64 p1) rfl rfl _ _ KA.out (dE l1.out) (kF l1.out) (aG _ _) (fun w3 hP=>sH ?_))
 refine aH ?_
 have F3:Hid (Rw w [(Z.heap.size,Iv .i64 p1,110),(Z.heap.size+1,Iv .i64 (aA 32),110),(w.heap.size+1+1+1,Iv .i64 (aA 32),110),(w.heap.size+1+1,Iv .i64 (aA 32),110),(w.heap.size+1,Iv .i64 u,108),(w.heap.size,Iv .u8 l,22)] w3):=
  Rw.put (F2a.out.sub (R':=[(Z.heap.size,Iv .i64 (aA 32),110),(Z.heap.size+1,Iv .i64 (aA 32),110),(w.heap.size+1+1+1,Iv .i64 (aA 32),110),(w.heap.size+1+1,Iv .i64 (aA 32),110),(w.heap.size+1,Iv .i64 u,108),(w.heap.size,Iv .u8 l,22)]) (fun r hr=>by simp only[List.mem_cons,nY,or_false]at hr⊢;rcases hr with rfl|rfl|rfl|rfl|rfl|rfl<;>simp)) hP (fun r hr=>by simp only[List.mem_cons,nY,or_false]at hr;rcases hr with rfl|rfl|rfl|rfl|rfl<;>(simp only;omega))
 clear hP KA F2a
 have KB:Hid (w3.heap[Z.heap.size+1]? =some (.cells (Iv .i64 (aA 32)) 110)):=(F3.out.row _ (mC _ mQ)).2.2
 go_wp2_with(refine wpPr rfl 110 _ _ rfl (Z.heap.size+1) (Iv .i64 p2) rfl rfl _ _ KB.out (dE l2.out) (kF l2.out) (aG _ _) (fun w4 hP=>sH ?_))
 refine aH ?_
 have F4:Hid (Rw w [(Z.heap.size+1,Iv .i64 p2,110),(Z.heap.size,Iv .i64 p1,110),(w.heap.size+1+1+1,Iv .i64 (aA 32),110),(w.heap.size+1+1,Iv .i64 (aA 32),110),(w.heap.size+1,Iv .i64 u,108),(w.heap.size,Iv .u8 l,22)] w4):=
  Rw.put (F3.out.sub (R':=[(Z.heap.size+1,Iv .i64 (aA 32),110),(Z.heap.size,Iv .i64 p1,110),(w.heap.size+1+1+1,Iv .i64 (aA 32),110),(w.heap.size+1+1,Iv .i64 (aA 32),110),(w.heap.size+1,Iv .i64 u,108),(w.heap.size,Iv .u8 l,22)]) (fun r hr=>by simp only[List.mem_cons,nY,or_false]at hr⊢;rcases hr with rfl|rfl|rfl|rfl|rfl|rfl<;>simp)) hP (fun r hr=>by simp only[List.mem_cons,nY,or_false]at hr;rcases hr with rfl|rfl|rfl|rfl|rfl<;>(simp only;omega))
 clear hP KB F3
 obtain⟨c,ec⟩:∃c,c=Z.heap.size:=⟨_,rfl⟩
 rw[←ec]at F4 hZs hZ3⊢
 clear ec
 have Q1:Hid _:=(F4.out.row _ (mC _ mQ)).2.2
 have Q2:Hid _:=(F4.out.row _ mQ).2.2
 have Q3:Hid _:=(F4.out.row _ (mC _ (mC _ (mC _ (mC _ mQ))))).2.2
 go_wp2_with(with_reducible refine aJ ?_;first
  | refine wpLr rfl 110 _ rfl c rfl _ (Iv .i64 p1) _ _ Q1.out underlying110 rfl (dE l1.out) ?_
  | refine wpLr rfl 110 _ rfl (c+1) rfl _ (Iv .i64 p2) _ _ Q2.out underlying110 rfl (dE l2.out) ?_
  | refine wpLr rfl 108 _ rfl (w.heap.size+1) rfl _ (Iv .i64 u) _ _ Q3.out underlying108 rfl (aT lu.out) ?_)
 refine(CS.out _).mono ?_
 rintro e w5 ⟨rfl,hb⟩
 have F5:Hid (Rw w [(c+1,Iv .i64 p2,110),(c,Iv .i64 p1,110),(w.heap.size+1+1+1,Iv .i64 (aA 32),110),(w.heap.size+1+1,Iv .i64 (aA 32),110),(w.heap.size+1,Iv .i64 u,108),(w.heap.size,Iv .u8 l,22)] w5):=F4.out.later hb (nQ _)
 clear hb F4 Q1 Q2 Q3 CS
 have KC:Hid ((w5.alloc (.cells (Iv .i64 (aA 32)) 110)).heap[w5.heap.size]? =some (.cells (Iv .i64 (aA 32)) 110)):=hAN _ _
 go_wp2_with(refine wpPr rfl 110 _ _ rfl w5.heap.size (Iv .i64 s) rfl rfl _ _ KC.out (dE lS.out) (kF lS.out) (aG _ _) (fun w6 hP=>sH ?_))
 refine aH ?_
 have F6a:=F5.out.newRow hP
 have hd6:c+1<w5.heap.size:=(F5.out.row _ mQ).2.1
 obtain⟨d,ed⟩:∃d,d=w5.heap.size:=⟨_,rfl⟩
 rw[←ed]at F6a hd6⊢
 have F6:Hid (Rw w [(d,Iv .i64 s,110),(c+1,Iv .i64 p2,110),(c,Iv .i64 p1,110),(w.heap.size+1+1+1,Iv .i64 (aA 32),110),(w.heap.size+1+1,Iv .i64 (aA 32),110),(w.heap.size+1,Iv .i64 u,108),(w.heap.size,Iv .u8 l,22)] w6):=F6a
 clear F6a F5 hP KC ed
 have Q4:Hid _:=(F6.out.row _ (mC _ (mC _ (mC _ (mC _ (mC _ (mC _ mQ))))))).2.2
 go_wp2_with(with_reducible refine aJ ?_;first
  | refine wpLr rfl 22 _ rfl w.heap.size rfl _ (Iv .u8 l) _ _ Q4.out underlying22 rfl (eJ ll.out) ?_)
 refine(CB.out _).mono ?_
 rintro e w7 ⟨rfl,hb⟩
 have F7:Hid (Rw w [(d,Iv .i64 s,110),(c+1,Iv .i64 p2,110),(c,Iv .i64 p1,110),(w.heap.size+1+1+1,Iv .i64 (aA 32),110),(w.heap.size+1+1,Iv .i64 (aA 32),110),(w.heap.size+1,Iv .i64 u,108),(w.heap.size,Iv .u8 l,22)] w7):=F6.out.later hb (nQ _)
 clear hb F6 Q4 CB
 obtain⟨B,eB⟩:∃B,mP l n=B:=⟨_,rfl⟩
 have HBit:Hid _:=eB
 rw[eB]
 clear eB
 by_cases hB:B=1
 ·subst hB
  go_wp2_with fail
  refine wRt 4 (fun w'=>∃x:Wp (fun v=>Rw w [(d,Iv .i64 s,110),(c+1,Iv .i64 p2,110),(c,Iv .i64 p1,110)] v),w'=x.w) (.held [0,1] (.tail 2 (.tail 3 (.last 4 .done)))) kJ (by kernel_rfl) ⟨⟨_,F7.out.drew.sub (fun r hr=>by simp only[List.mem_cons,nY,or_false]at hr⊢;rcases hr with rfl|rfl|rfl<;>simp)⟩,rfl⟩ ?_
  simp only[dP,oS]
  refine wqLr rfl 110 _ rfl d rfl _ (Iv .i64 s) _ _ (fun w' hw'=>by obtain⟨x,rfl⟩:=hw';exact(x.p.row _ mQ).2.2) underlying110 rfl (dE lS.out) ?_
  simp only[pS]
  refine wqLr rfl 110 _ rfl (c+1) rfl _ (Iv .i64 p2) _ _ (fun w' hw'=>by obtain⟨x,rfl⟩:=hw';exact(x.p.row _ (mC _ mQ)).2.2) underlying110 rfl (dE l2.out) ?_
  simp only[pS]
  refine wqN ?_
  go_wp2_with fail
  refine(CD2.out _).mono ?_
  rintro e w8 ⟨rfl,hb⟩
  have F8:Hid (Rw w [(d,Iv .i64 s,110),(c+1,Iv .i64 p2,110),(c,Iv .i64 p1,110),(w.heap.size+1+1+1,Iv .i64 (aA 32),110),(w.heap.size+1+1,Iv .i64 (aA 32),110),(w.heap.size+1,Iv .i64 u,108),(w.heap.size,Iv .u8 l,22)] w8):=F7.out.drew.later hb (nQ _)
  clear hb F7
  go_wp2_with fail
  refine⟨⟨⟨_,F8.out.sub (fun r hr=>by simp only[List.mem_cons,nY,or_false]at hr⊢;rcases hr with rfl|rfl|rfl<;>simp)⟩,rfl⟩,?_⟩
  have K2:Hid (w8.heap[w.heap.size+1+1]? =some (.cells (Iv .i64 (aA 32)) 110)):=(F8.out.row _ (mC _ (mC _ (mC _ (mC _ mQ))))).2.2
  go_wp2_with(refine wpPr rfl 110 _ _ rfl (w.heap.size+1+1) (Iv .i64 s) rfl rfl _ _ K2.out (dE lS.out) (kF lS.out) (aG _ _) (fun w9 hP=>sH ?_))
  refine aH ?_
  have F9:Hid (Rw w [(w.heap.size+1+1+1,Iv .i64 (aA 32),110),(d,Iv .i64 s,110),(c+1,Iv .i64 p2,110),(c,Iv .i64 p1,110)] w9):=
   (F8.out.sub (R':=[(w.heap.size+1+1+1,Iv .i64 (aA 32),110),(d,Iv .i64 s,110),(c+1,Iv .i64 p2,110),(c,Iv .i64 p1,110)]) (fun r hr=>by simp only[List.mem_cons,nY,or_false]at hr⊢;rcases hr with rfl|rfl|rfl|rfl<;>simp)).past hP (by omega) (fun r hr=>by simp only[List.mem_cons,nY,or_false]at hr;rcases hr with rfl|rfl|rfl|rfl<;>(simp only;omega))
  have K9:Hid _:=hP.here
  clear hP F8 K2
  go_wp2_with fail
  refine⟨⟨⟨_,F9.out.sub (fun r hr=>by simp only[List.mem_cons,nY,or_false]at hr⊢;rcases hr with rfl|rfl|rfl<;>simp)⟩,rfl⟩,?_⟩
  have K3:Hid (w9.heap[w.heap.size+1+1+1]? =some (.cells (Iv .i64 (aA 32)) 110)):=(F9.out.row _ mQ).2.2
  go_wp2_with(refine wpPr rfl 110 _ _ rfl (w.heap.size+1+1+1) (Iv .i64 d2) rfl rfl _ _ K3.out (dE lD2.out) (kF lD2.out) (aG _ _) (fun wX hP=>sH ?_))
  refine aH ?_
  refine m6 ?_
  have M4:=(hP.far (w.heap.size+1+1) (by omega)).trans K9.out
  have M5:=hP.here
  have B9:=hP.below _ _ F9.out.bel (by omega)
  clear hP F9 K9 K3
  go_wp2
  exact bodyPost_ret (v:=.tuple #[.agg (Iv .i64 s),.agg (Iv .i64 d2)]) (iP rfl _ _ _ _ _ _ (Iv .i64 s) (Iv .i64 d2) _ _ rfl rfl M4 M5 underlying110 rfl (dE lS.out) underlying110 rfl (dE lD2.out)) rfl ⟨by first|rfl|(rw[if_pos HBit.out];first|rfl|rw[if_pos HBit.out]),B9⟩
 ·have hB2:(B==1)=false:=by simpa using hB
  have HNB:Hid (¬mP l n=1):=by show¬_;rw[HBit.out];exact hB
  go_wp2_with fail
  refine wRt 4 (fun w'=>∃x:Wp (fun v=>Rw w [(d,Iv .i64 s,110),(c+1,Iv .i64 p2,110),(c,Iv .i64 p1,110)] v),w'=x.w) (.held [0,2] (.tail 1 (.tail 3 (.last 4 .done)))) kJ (by kernel_rfl) ⟨⟨_,F7.out.drew.sub (fun r hr=>by simp only[List.mem_cons,nY,or_false]at hr⊢;rcases hr with rfl|rfl|rfl<;>simp)⟩,rfl⟩ ?_
  simp only[dP,oS]
  refine wqLr rfl 110 _ rfl c rfl _ (Iv .i64 p1) _ _ (fun w' hw'=>by obtain⟨x,rfl⟩:=hw';exact(x.p.row _ (mC _ (mC _ mQ))).2.2) underlying110 rfl (dE l1.out) ?_
  simp only[pS]
  refine wqLr rfl 110 _ rfl d rfl _ (Iv .i64 s) _ _ (fun w' hw'=>by obtain⟨x,rfl⟩:=hw';exact(x.p.row _ mQ).2.2) underlying110 rfl (dE lS.out) ?_
  simp only[pS]
  refine wqN ?_
  go_wp2_with fail
  refine(CD1.out _).mono ?_
  rintro e w8 ⟨rfl,hb⟩
  have F8:Hid (Rw w [(d,Iv .i64 s,110),(c+1,Iv .i64 p2,110),(c,Iv .i64 p1,110),(w.heap.size+1+1+1,Iv .i64 (aA 32),110),(w.heap.size+1+1,Iv .i64 (aA 32),110),(w.heap.size+1,Iv .i64 u,108),(w.heap.size,Iv .u8 l,22)] w8):=F7.out.drew.later hb (nQ _)
  clear hb F7
  go_wp2_with fail
  refine⟨⟨⟨_,F8.out.sub (fun r hr=>by simp only[List.mem_cons,nY,or_false]at hr⊢;rcases hr with rfl|rfl|rfl<;>simp)⟩,rfl⟩,?_⟩
  have K2:Hid (w8.heap[w.heap.size+1+1]? =some (.cells (Iv .i64 (aA 32)) 110)):=(F8.out.row _ (mC _ (mC _ (mC _ (mC _ mQ))))).2.2
  go_wp2_with(refine wpPr rfl 110 _ _ rfl (w.heap.size+1+1) (Iv .i64 d1) rfl rfl _ _ K2.out (dE lD1.out) (kF lD1.out) (aG _ _) (fun w9 hP=>sH ?_))
  refine aH ?_
  have F9:Hid (Rw w [(w.heap.size+1+1+1,Iv .i64 (aA 32),110),(d,Iv .i64 s,110),(c+1,Iv .i64 p2,110),(c,Iv .i64 p1,110)] w9):=
   (F8.out.sub (R':=[(w.heap.size+1+1+1,Iv .i64 (aA 32),110),(d,Iv .i64 s,110),(c+1,Iv .i64 p2,110),(c,Iv .i64 p1,110)]) (fun r hr=>by simp only[List.mem_cons,nY,or_false]at hr⊢;rcases hr with rfl|rfl|rfl|rfl<;>simp)).past hP (by omega) (fun r hr=>by simp only[List.mem_cons,nY,or_false]at hr;rcases hr with rfl|rfl|rfl|rfl<;>(simp only;omega))
  have K9:Hid _:=hP.here
  clear hP F8 K2
  go_wp2_with fail
  refine⟨⟨⟨_,F9.out.sub (fun r hr=>by simp only[List.mem_cons,nY,or_false]at hr⊢;rcases hr with rfl|rfl|rfl<;>simp)⟩,rfl⟩,?_⟩
  have K3:Hid (w9.heap[w.heap.size+1+1+1]? =some (.cells (Iv .i64 (aA 32)) 110)):=(F9.out.row _ mQ).2.2
  go_wp2_with(refine wpPr rfl 110 _ _ rfl (w.heap.size+1+1+1) (Iv .i64 s) rfl rfl _ _ K3.out (dE lS.out) (kF lS.out) (aG _ _) (fun wX hP=>sH ?_))
  refine aH ?_
  refine m6 ?_
  have M4:=(hP.far (w.heap.size+1+1) (by omega)).trans K9.out
  have M5:=hP.here
  have B9:=hP.below _ _ F9.out.bel (by omega)
  clear hP F9 K9 K3
  go_wp2
  exact bodyPost_ret (v:=.tuple #[.agg (Iv .i64 d1),.agg (Iv .i64 s)]) (iP rfl _ _ _ _ _ _ (Iv .i64 d1) (Iv .i64 s) _ _ rfl rfl M4 M5 underlying110 rfl (dE lD1.out) underlying110 rfl (dE lS.out)) rfl ⟨by first|rfl|(rw[if_neg HNB.out];first|rfl|rw[if_neg HNB.out]),B9⟩
theorem YH (l u:List Int) (hu:Dg u) (m:Nat):Dg (cU l u m).x1∧Dg (cU l u m).z1∧Dg (cU l u m).x2∧Dg (cU l u m).z2:=by
 obtain⟨h1,h2,h3,h4⟩:=FL l u (dN u) ⟨hu,0,by omega⟩ m
 exact⟨h1.1,h2.1,h3.1,h4.1⟩
theorem ML (l u:List Int) (m:Nat):xR (cU l u (m+1))=if mP l (254 - m)=1 then sK (cU l u m).x1 (cU l u m).z1 (cU l u m).x2 (cU l u m).z2++sL (cU l u m).x1 (cU l u m).z1 (cU l u m).x2 (cU l u m).z2 u else oM (cU l u m).x1 (cU l u m).z1++oO (cU l u m).x1 (cU l u m).z1:=by
 rw[cU]
 by_cases h:mP l (254 - m)=1
 ·simp only[h,if_true,xR]
 ·simp only[h,if_false,xR]
theorem LL (l u:List Int) (m:Nat):tK (cU l u (m+1))=if mP l (254 - m)=1 then oM (cU l u m).x2 (cU l u m).z2++oO (cU l u m).x2 (cU l u m).z2 else sK (cU l u m).x1 (cU l u m).z1 (cU l u m).x2 (cU l u m).z2++sL (cU l u m).x1 (cU l u m).z1 (cU l u m).x2 (cU l u m).z2 u:=by
 rw[cU]
 by_cases h:mP l (254 - m)=1
 ·simp only[h,if_true,tK]
 ·simp only[h,if_false,tK]
theorem NN (l u:List Int) (hl:l.length=32) (hb:aE l) (hu:Dg u):∀(m n:Nat),n+m=255→∀w:World,
 Calls prog 54 #[.agg (Iv .u8 l),.int .i64 n,.agg (Iv .i64 u)] w fun e w'=>e=.returned (.tuple #[.agg (Iv .i64 (xR (cU l u m))),.agg (Iv .i64 (tK (cU l u m)))])∧Below w.heap.size w w'
 | 0,n,hn,w=>by
   obtain rfl:n=255:=by omega
   exact VF l u hl hu w
 | m+1,n,hn,w=>by
   obtain⟨h1,h2,h3,h4⟩:=YH l u hu m
   have hm:254 - m=n:=by omega
   have h:=VE l u (cU l u m).x1 (cU l u m).z1 (cU l u m).x2 (cU l u m).z2 hl hb hu h1 h2 h3 h4 n (by omega) (fun W=>NN l u hl hb hu m (n+1) (by omega) W) w
   rw[ML,LL,hm]
   exact h
abbrev rE (b:Nat) (l:List Int):Nat×Array Value×TypeId:=(b,Iv .u64 l,211)
abbrev rZ (b:Nat):Nat×Array Value×TypeId:=(b,Iv .u64 [0,0,0,0,0],211)
abbrev rR (b:Nat) (l:List Int):Nat×Array Value×TypeId:=(b,Iv .u64 l,213)
theorem acL:(prog.info? 213).map (·.size)=some 10:=by kernel_rfl
theorem dA {l:List Int} (h:l.length=10):(prog.info? 213).map (·.size)=some (Iv .u64 l).size:=by rw[aD,h];exact acL
theorem QX:∀W,(zeroValue 213).run prog W=.ok (.agg (Iv .u64 (aA 10))) W:=(zero_of_info (n:=10) (by kernel_rfl)).1
theorem AM {l:List Int} (h:l.length=10):(Iv .u64 (aA 10)).size=(Iv .u64 l).size:=by rw[aD,aD,h];rfl
theorem qN {l:List Int} (h:l.length=5):(Iv .u64 [0,0,0,0,0]).size=(Iv .u64 l).size:=by rw[aD,aD,h];rfl
theorem vH {P:Program} {ops:Array Oper} {rest:List Oper} {op:Oper} {a:Act} {w:World} {Q:Exit→Act→World→Prop} (hgd:op.guard=none) (ty:TypeId) (x y:Operand) (ho:op.op=.store ty x y)
 (g:Nat) (k:IntKind) (v p q:List Int) (hx:a.eval x=.pointer (some ⟨g,0,none⟩)) (hy:a.eval y=.agg (Iv k v)) (t:TypeId) (hg:w.heap[g]? =some (.cells (Iv k (p++q)) t))
 (hi:(P.info? ty).map (·.size)=some (v.map (Value.int k)).length) (hl:v.length=p.length) (h:∀W,wH w g (Iv k (v++q)) t W→wpList P ops Q rest (a.put op.dst undef) W):wpList P ops Q (op::rest) a w:=
 wpPp hgd ty x y ho g 0 (v.map (Value.int k)) hx hy ((p++q).map (Value.int k)) t hg ((v++q).map (Value.int k)) hi (by simp;omega) (List.all_eq_true.2 fun z hz=>by obtain⟨i,_,rfl⟩:=List.mem_map.1 hz;rfl)
  (by rw[tJ,nA,Nat.zero_add,lU,←List.map_drop,hl,List.drop_left,←List.map_append]) h
theorem vI {P:Program} {ops:Array Oper} {rest:List Oper} {op:Oper} {a:Act} {w:World} {Q:Exit→Act→World→Prop} (hgd:op.guard=none) (ty:TypeId) (x y:Operand) (ho:op.op=.store ty x y)
 (g n:Nat) (k:IntKind) (v p q:List Int) (hx:a.eval x=.pointer (some ⟨g,n,none⟩)) (hy:a.eval y=.agg (Iv k v)) (t:TypeId) (hg:w.heap[g]? =some (.cells (Iv k (p++q)) t))
 (hi:(P.info? ty).map (·.size)=some (v.map (Value.int k)).length) (hn:p.length=n) (hl:v.length=q.length) (h:∀W,wH w g (Iv k (p++v)) t W→wpList P ops Q rest (a.put op.dst undef) W):wpList P ops Q (op::rest) a w:=
 wpPp hgd ty x y ho g n (v.map (Value.int k)) hx hy ((p++q).map (Value.int k)) t hg ((p++v).map (Value.int k)) hi (by simp;omega) (List.all_eq_true.2 fun z hz=>by obtain⟨i,_,rfl⟩:=List.mem_map.1 hz;rfl)
  (by rw[lU,←List.map_take,←List.map_drop,←hn,List.take_left,hl,←lQ,List.drop_length,List.map_nil,List.append_nil,←List.map_append]) h
theorem jI {l:List Int} (h:l.length=5):(prog.info? 211).map (·.size)=some (l.map (Value.int .u64)).length:=by rw[lU,h];exact kI
section
variable {P:Program} {ops:Array Oper} {Q:Exit→Act→World→Prop} {S1:World→Prop} {T0 r:Tr} {a:Act} {w w0 V:World} {R:List (Nat×Array Value×TypeId)} {k:Nat} {o:Oper}
theorem ZI (FD:Hid (Rn w0 R V)) (T:Tr) (F:Act) (hm:Hid (∀w',Rn w0 R w'→dP P ops Q S1 T F w')→dP P ops Q S1 T0 a w) (hc:∀w',Rn w0 R w'→dP P ops Q S1 T F w'):dP P ops Q S1 T0 a w:=hm hc
theorem yH (FD:Hid (Rn w0 R V)) (T:Tr) (F:Nat→Act) (hm:Hid (∀c w',Rn w0 (rZ c::R) w'→dP P ops Q S1 T (F c) w')→dP P ops Q S1 T0 a w) (hc:∀c w',Rn w0 (rZ c::R) w'→dP P ops Q S1 T (F c) w'):dP P ops Q S1 T0 a w:=hm hc
theorem QH (FD:Hid (Rn w0 R V)) (T:Tr) (F:Nat→Nat→Act) (hm:Hid (∀c d w',Rn w0 (rZ d::rZ c::R) w'→dP P ops Q S1 T (F c d) w')→dP P ops Q S1 T0 a w) (hc:∀c d w',Rn w0 (rZ d::rZ c::R) w'→dP P ops Q S1 T (F c d) w'):dP P ops Q S1 T0 a w:=hm hc
theorem trC {f:FuncId} {args:Array Value} {x:Value} (C:Hid (∀W,Calls prog f args W fun e w'=>e=.returned x∧Below W.heap.size W w')) (H:Hid (Rn w0 R w)) (ho:bM ops [k]=[o]) (hg:o.guard=none) (he:(execOp a.eval o).run prog w=.ok (.enter f args) w) (hS:∀v,Rn w0 R v→S1 v) (hn:∀v,Rn w0 R v→dP prog ops Q S1 r (a.put o.dst x) v):wpList prog ops (cJ (fun a' w'=>S1 w'∧dP prog ops Q S1 r a' w') Q) (bM ops [k]) a w:=by
 rw[ho]
 refine wpList_plain hg fun K hK=>?_
 unfold Oper.wp
 rw[he,Oper.upon_enter]
 refine(C.out w).mono fun e w2 hh=>?_
 obtain⟨rfl,hb⟩:=hh
 have h1:=H.out.later hb (nQ _)
 exact hK _ _ ⟨hS _ h1,hn _ h1⟩
theorem lN (H:Hid (Rn w0 R w)) (ho:bM ops [k]=[o]) (hop:o.op=.alloc 211) (hg:o.guard=none) (hS:∀v,Rn w0 R v→S1 v) (hn:∀c v,Rn w0 (rZ c::R) v→dP prog ops Q S1 r (a.put o.dst (.pointer (some ⟨c,0,none⟩))) v):wpList prog ops (cJ (fun a' w'=>S1 w'∧dP prog ops Q S1 r a' w') Q) (bM ops [k]) a w:=by
 rw[ho]
 refine wpList_plain hg fun K hK=>?_
 have e1:(execOp a.eval o).run prog w=.ok (.value (.pointer (some ⟨w.heap.size,0,none⟩))) (w.alloc (.cells (Iv .u64 [0,0,0,0,0]) 211)):=by
  unfold execOp
  simp[hop,go_sem]
  rfl
 unfold Oper.wp
 rw[e1]
 have h1:=H.out.alloc (Iv .u64 [0,0,0,0,0]) 211
 exact hK _ _ ⟨hS _ h1.tail,hn _ _ h1⟩
end
end Go.Proofs.YtgcepckaolkeoaaGreatDoor
