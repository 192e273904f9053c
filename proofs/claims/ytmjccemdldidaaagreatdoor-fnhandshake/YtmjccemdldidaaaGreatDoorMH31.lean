import Derived.Stop.Asserts
import Derived.Test.YtmjccemdldidaaaGreatDoorMH30
namespace Go.Proofs.YtmjccemdldidaaaGreatDoor
open Go.RowKit Go.Extern.Stop Go.Stop Go.Extern
open Go.Proofs.Tryz
open Go.RowKit
open Go renaming heap_alloc_new → hAN, heap_alloc_old → hAO, wpList_load_row → wpLr, wpQuiet_nil → wqN
open Go.World renaming block_lt_of_cell? → wJ, size_alloc → wU
open List renaming mem_append → mY
open Nat renaming le_refl → nQ, lt_of_lt_of_le → nJ
set_option linter.unusedVariables false
set_option maxHeartbeats 4000000
set_option maxRecDepth 1000000
theorem ae3 (n:Nat) (v:Value) (w:World):(Go.method (n+1) 162 v "AssignableTo").run prog w=.ok (164,v) w:=by kernel_rfl
theorem ajJ (n:Nat) (v:Value) (w:World):(Go.method (n+1) 162 v "Elem").run prog w=.ok (166,v) w:=by kernel_rfl
theorem ajK (n:Nat) (v:Value) (w:World):(Go.method (n+1) 162 v "Implements").run prog w=.ok (167,v) w:=by kernel_rfl
theorem ae4 (n:Nat) (v:Value) (w:World):(Go.method (n+1) 105 v "Unwrap").run prog w=.ok (158,v) w:=by kernel_rfl
theorem ajL (n:Nat) (h:Value) (w:World):(Go.method (n+2) 162 (.agg #[h]) "Kind").run prog w=.ok (153,h) w:=by kernel_rfl
def afV:Value→Nat
 | .iface t _=>if t=105 then 1 else 0
 | _=>0
theorem P8 (s:ByteArray) (c:Int) (g vb:Nat) (w:World) (hg:w.heap[g]? =some (.cells #[.int .i64 0] 107)) (hv:w.cell? ⟨vb,0,none⟩=some (.pointer (some ⟨g,0,none⟩))):
 Calls prog 67 #[zQ s c,.iface 109 (.pointer (some ⟨g,0,none⟩)),.agg #[yF 109,.pointer (some ⟨vb,0,none⟩),.int .u64 150],.iface 162 (.agg #[yF 107])] w
  fun e w'=>e=.returned (.bool true)∧w'.heap[g]? =some (.cells #[.int .i64 c] 107)∧∀B a,Below B a w→B≤g→Below B a w':=by
 have hTO:=@run_callFunc_extern prog 84 _ Extern.ReflectliteType.typeOf func84 (by kernel_rfl) (by kernel_rfl) (by kernel_rfl) (by kernel_rfl)
 have hA:=@run_callFunc_extern prog 164 _ xA func164 (by kernel_rfl) (by kernel_rfl) (by kernel_rfl) xAf
 have t1:=xO1 s c
 have t2:=xO2 c
 have a0:=xA0
 have a1:=xA1
 have mA:=ae3
 have mU:=ae4
 go_enter func67,ntmps67
 go_wp2_with fail
 have ta:=run_typeAssert_lacksB (P:=prog) (t:=105) underlying167 (by kernel_rfl) (z:=.nilIface) (by kernel_rfl)
 have tu:=run_typeAssert_hasB (P:=prog) (t:=105) underlying170 (by kernel_rfl)
 obtain⟨W1,hW1⟩:∃x,x=w.alloc (.cells #[yF 109,.pointer (some ⟨vb,0,none⟩),.int .u64 150] 135):=⟨_,rfl⟩
 rw[←hW1]
 have lg:g<w.heap.size:=(Array.getElem?_eq_some_iff.1 hg).1
 have lv:vb<w.heap.size:=wJ _ _ hv
 have bW:Hid (Below w.heap.size w W1):=by show Below _ _ _;rw[hW1];exact(Below.refl _ _).alloc (nQ _) _
 have q0:Hid (W1.cell? ⟨w.heap.size,0,none⟩=some (yF 109)):=by show _=_;rw[hW1];exact cell_of_row _ _ _ _ _ _ (hAN _ _)
 have q1:Hid (W1.cell? ⟨w.heap.size,1,none⟩=some (.pointer (some ⟨vb,0,none⟩))):=by show _=_;rw[hW1];exact cell_of_row _ _ _ _ _ _ (hAN _ _)
 have q2:Hid (W1.cell? ⟨w.heap.size,2,none⟩=some (.int .u64 150)):=by show _=_;rw[hW1];exact cell_of_row _ _ _ _ _ _ (hAN _ _)
 have hgW:Hid _:=(bW.out.block g lg).trans hg
 have hvW:Hid _:=(bW.out.cell (p:=⟨vb,0,none⟩) lv).trans hv
 have lW:W1.heap.size=w.heap.size+1:=by rw[hW1];simp
 have hE:=@run_callFunc_extern prog 85 _ _ func85 (by kernel_rfl) (by kernel_rfl) (by kernel_rfl) alN
 have hV:=@run_callFunc_extern prog 64 _ xV func64 (by kernel_rfl) (by kernel_rfl) (by kernel_rfl) xVf
 have hS:=@run_callFunc_extern prog 86 _ _ func86 (by kernel_rfl) (by kernel_rfl) (by kernel_rfl) alP
 clear hW1 hg hv
 go_loopw [0] (fun E' wl=>Below W1.heap.size W1 wl∧(E'=zQ s c∨E'=jU c)) (fun E' _=>afV E')
 case atStart=>exact⟨Below.refl _ _,.inl rfl⟩
 case round=>
  obtain⟨hb,h|h⟩:=hrel
  ·subst h
   have HB:Hid _:=hb
   clear hb
   go_wp2
   go_roundw
   case rel=>exact⟨HB.out.alloc HB.out.size _,.inr rfl⟩
   case measure=>exact(by decide:(0:Nat)<1)
  ·subst h
   have HB:Hid _:=hb
   have r0:wr.cell? ⟨w.heap.size,0,none⟩=some (yF 109):=(hb.cell (p:=⟨w.heap.size,0,none⟩) (by show w.heap.size<_;omega)).trans q0.out
   have r1:wr.cell? ⟨w.heap.size,1,none⟩=some (.pointer (some ⟨vb,0,none⟩)):=(hb.cell (p:=⟨w.heap.size,1,none⟩) (by show w.heap.size<_;omega)).trans q1.out
   have r2:wr.cell? ⟨w.heap.size,2,none⟩=some (.int .u64 150):=(hb.cell (p:=⟨w.heap.size,2,none⟩) (by show w.heap.size<_;omega)).trans q2.out
   have e1:=xE1 g vb wr ((hb.cell (p:=⟨vb,0,none⟩) (by show vb<_;omega)).trans hvW.out)
   have v2:=xV2 c wr
   have hs:=hb.size
   obtain⟨W3,s3,p3⟩:=xS1 c g wr.heap.size (wr.alloc (.cells #[.int .i64 c] 107)) (hAN _ _) ((hAO _ _ (by omega)).trans ((hb.block g (by omega)).trans hgW.out))
   have P3:Hid _:=p3
   clear hb p3
   go_wp2
   go_ret
   refine⟨rfl,P3.out.here,fun B a hB hg2=>P3.out.below _ _ ?_ hg2⟩
   have b1:Below B a W1:=hB.trans (bW.out.mono (by omega))
   have b2:Below B a wr:=b1.trans (HB.out.mono (by omega))
   exact b2.alloc (by omega) _
def gK (w:World):Prop:=w.cell? ⟨0,0,none⟩=some (.iface 162 (.agg #[yF 64]))
theorem gK.later {w w':World} {B:Nat} (h:gK w) (hb:Below B w w') (hB:w.heap.size≤B):gK w':=
 (hb.cell (p:=⟨0,0,none⟩) (nJ (wJ _ _ h) hB)).trans h
theorem xKs:(Extern.find f153).isSome=true:=by kernel_rfl
noncomputable def xK:=(Extern.find f153).get xKs
theorem xKf:Extern.find f153=some xK:=(Option.some_get xKs).symm
theorem xK1 (w:World):(xK #[yF 109]).run prog w=.ok (.int .u8 22) w:=by kernel_rfl
theorem xK2 (w:World):(xK #[yF 107]).run prog w=.ok (.int .u8 25) w:=by kernel_rfl
theorem aiX (s:ByteArray) (c:Int) (g:Nat) (w:World) (hg:w.heap[g]? =some (.cells #[.int .i64 0] 107)) (ht:gK w):
 Calls prog 43 #[zQ s c,.iface 109 (.pointer (some ⟨g,0,none⟩))] w
  fun e w'=>e=.returned (.bool true)∧w'.heap[g]? =some (.cells #[.int .i64 c] 107)∧∀B a,Below B a w→B≤g→Below B a w':=by
 have hV:=@run_callFunc_extern prog 64 _ xV func64 (by kernel_rfl) (by kernel_rfl) (by kernel_rfl) xVf
 have hT:=@run_callFunc_extern prog 65 _ xT func65 (by kernel_rfl) (by kernel_rfl) (by kernel_rfl) xTf
 have hN:=@run_callFunc_extern prog 66 _ _ func66 (by kernel_rfl) (by kernel_rfl) (by kernel_rfl) alO
 have hL:=@run_callFunc_extern prog 166 _ xL func166 (by kernel_rfl) (by kernel_rfl) (by kernel_rfl) xLf
 have hI:=@run_callFunc_extern prog 167 _ xI func167 (by kernel_rfl) (by kernel_rfl) (by kernel_rfl) xIf
 have hK:=@run_callFunc_extern prog 153 _ xK func153 (by kernel_rfl) (by kernel_rfl) (by kernel_rfl) xKf
 have k1:=xK1
 have k2:=xK2
 have v1:=xV1 g
 have t1:=xT1
 have l1:=xL1
 have i1:=xI1
 have mE:=ajJ
 have mI:=ajK
 have mK:=ajL
 have HG:Hid _:=hg
 have HT:Hid (gK w):=ht
 have lg:g<w.heap.size:=(Array.getElem?_eq_some_iff.1 hg).1
 have hbW:Below w.heap.size w ((w.alloc (.cells #[.pointer (some ⟨g,0,none⟩)] 109)).alloc (.cells #[.pointer (some ⟨4,109,none⟩),.pointer (some ⟨w.heap.size,0,none⟩),.int .u64 150] 135)):=((Below.refl _ _).alloc (nQ _) _).alloc (by simp) _
 have hcV:((w.alloc (.cells #[.pointer (some ⟨g,0,none⟩)] 109)).alloc (.cells #[.pointer (some ⟨4,109,none⟩),.pointer (some ⟨w.heap.size,0,none⟩),.int .u64 150] 135)).cell? ⟨w.heap.size,0,none⟩=some (.pointer (some ⟨g,0,none⟩)):=by
  rw[cell_of_row _ _ _ _ _ _ ((hAO _ _ (by simp)).trans (hAN _ _))]
  rfl
 have n1:=xN1 g w.heap.size _ hcV
 have c0:=ht.later hbW (nQ _)
 unfold gK at c0
 have HC:Hid _:=hcV
 have HBW:Hid _:=hbW
 have HGW:Hid _:=(hbW.block g lg).trans hg
 clear hg ht hcV hbW
 go_enter func43,ntmps43
 go_wp2_with fail
 refine(P8 s c g w.heap.size _ HGW.out HC.out).mono ?_
 rintro e w1 ⟨rfl,hr,hb⟩
 have HR:Hid _:=hr
 have HB:Hid _:=hb
 clear hr hb hV hT hN hL hI hK k1 k2 v1 t1 l1 i1 mE mI mK n1 c0
 go_wp2_with fail
 go_ret
 exact⟨rfl,HR.out,fun B a hB hg2=>HB.out B a (hB.trans (HBW.out.mono (by omega))) hg2⟩
theorem zE (s:ByteArray) (c:Int) (w:World) (ht:gK w):
 Calls prog 20 #[zQ s c] w fun e w'=>e=.returned (.int .i64 c)∧Below w.heap.size w w':=by
 have hbW:Below w.heap.size w (w.alloc (.cells #[.int .i64 0] 107)):=(Below.refl _ _).alloc (nQ _) _
 have HB0:Hid _:=hbW
 have HT:Hid _:=ht.later hbW (nQ _)
 clear ht hbW
 go_enter func20,ntmps20
 go_wp2_with fail
 refine(aiX s c w.heap.size _ (hAN _ _) HT.out).mono ?_
 rintro e w1 ⟨rfl,hr,hb⟩
 have c0:w1.cell? ⟨w.heap.size,0,none⟩=some (.int .i64 c):=cell_of_row _ _ _ _ _ _ hr
 have HB:Hid (Below w.heap.size w w1):=hb _ _ HB0.out (nQ _)
 clear hr hb
 go_wp2_with fail
 go_ret
 exact⟨rfl,HB.out⟩
def crV (s:Int) (p1 p2 Pt X1 X2 C3 H3:LI) (m2 m3:Int):List Value:=
 if p1=aA 32 then rV 0 (aA 140) (aA 32) (aA 32) 29 m2 else if p2=aA 32 then rV 0 (aA 140) (aA 32) (aA 32) 29 m3 else rV s (qE Pt X1 X2) C3 H3 30 m3
theorem GD (s:Int) (z c h:LI) (k m:Int):(rV s z c h k m).toArray.all (·.oneCell')=true:=by simp[rV,WL,Value.oneCell']
theorem zH {s:Int} {z c h:LI} {k m:Int} (hz:z.length=140) (hc:c.length=32) (hh:h.length=32):(prog.info? 39).map (·.size)=some (rV s z c h k m).toArray.size:=by rw[List.size_toArray,WU _ _ _ _ _ _ hz hc hh];kernel_rfl
theorem akG {s:Int} {z c h:LI} {k m:Int} (hz:z.length=140) (hc:c.length=32) (hh:h.length=32):(rV 0 (aA 140) (aA 32) (aA 32) 0 0).toArray.size=(rV s z c h k m).toArray.size:=by rw[List.size_toArray,List.size_toArray,WU _ _ _ _ _ _ hz hc hh];rfl
theorem adW:∀W,(zeroValue 39).run prog W=.ok (.agg (rV 0 (aA 140) (aA 32) (aA 32) 0 0).toArray) W:=fun W=>by kernel_rfl
abbrev MU (c h:LI) (m:Int) (G:LI):List Value:=dF c h (.int .i64 m::G.map (Value.int .u8))
theorem OY {c h G:LI} {m:Int} (hc:c.length=32) (hh:h.length=32) (hG:G.length=32):(MU c h m G).length=97:=by rw[iO _ _ _ hc hh];simp[hG]
theorem aiQ:∀W,(zeroValue 62).run prog W=.ok (.agg (MU (aA 32) (aA 32) 0 (aA 32)).toArray) W:=fun W=>by kernel_rfl
theorem ahC {c h G:LI} {m:Int} (hc:c.length=32) (hh:h.length=32) (hG:G.length=32):(prog.info? 62).map (·.size)=some (MU c h m G).toArray.size:=by rw[List.size_toArray,OY hc hh hG];kernel_rfl
theorem akJ {c h G:LI} {m:Int} (hc:c.length=32) (hh:h.length=32) (hG:G.length=32):(MU (aA 32) (aA 32) 0 (aA 32)).toArray.size=(MU c h m G).toArray.size:=by rw[List.size_toArray,List.size_toArray,OY hc hh hG];rfl
theorem agC (c h G:LI) (m:Int):(MU c h m G).toArray.all (·.oneCell')=true:=by simp[dF,Value.oneCell']
abbrev rSd (g:Nat) (c h:LI) (m:Int) (G:LI):Nat×Array Value×TypeId:=(g,(MU c h m G).toArray,62)
abbrev rCr (g:Nat) (s:Int) (z c h:LI) (k m:Int):Nat×Array Value×TypeId:=(g,(rV s z c h k m).toArray,39)
theorem ad8 (r s:Int) (z:LI):(WL r z).set 0 (.int .u32 s)=WL s z:=rfl
theorem ahD:(prog.info? 32).map (·.size)=some 1:=by kernel_rfl
theorem Rn.ge {w0 W:World} {R:Rs} (h:Rn w0 R W) {g:Nat} {cs:Array Value} {t:TypeId} (hr:(g,cs,t)∈R):w0.heap.size≤g:=(h.rw.row _ hr).1
theorem ID {l pu e st G:LI} {m:Int} {Pt C1 H1 p1 X1 C2 H2 p2 X2 C3 H3:LI} {m1 m2 m3:Int} (K:rU DR (BV G) l pu e st G m Pt C1 H1 p1 X1 C2 H2 p2 X2 C3 H3 m1 m2 m3) (s:Int) (w:World) (ht:cN w) (he:gK w) (hw4:3<w.heap.size):
 Calls prog 9 #[.agg (Iv .u8 l),.agg (Iv .u8 pu),.agg (Iv .u8 G),.agg (Iv .u8 e),.int .u32 s,.agg (Iv .u8 st),.int .i64 m] w fun x w'=>x=.returned (.agg (crV s p1 p2 Pt X1 X2 C3 H3 m2 m3).toArray)∧Below w.heap.size w w':=by
 have CY:Hid (∀(W:World) (ht:cN W) (h4:3<W.heap.size),_):=fun W ht h4=>rL G K.lG K.bG W ht h4
 obtain⟨c,ec⟩:∃c,DR=c:=⟨_,rfl⟩
 obtain⟨h,eh⟩:∃h,BV G=h:=⟨_,rfl⟩
 rw[ec,eh]at K CY
 have CC:Hid (∀(b:Nat) (hb:3<b) (W:World) (hr:W.heap[b]? =some (.cells (dF c h (.int .i64 m::G.map (Value.int .u8))).toArray 62)) (ht:cN W),_):=fun b hb W hr ht=>PW K b hb 62 W hr ht
 have hK:Hid (rU c h l pu e st G m Pt C1 H1 p1 X1 C2 H2 p2 X2 C3 H3 m1 m2 m3):=K
 have HT:Hid (cN w):=ht
 have HE:Hid (gK w):=he
 clear K ht he ec eh
 have hz:=dM
 have hzi:=WD
 have hzc:=adW
 have hzd:=aiQ
 have F0:=((((((Rn.start w).alloc' w.heap.size (by first|rfl|simp only[wU]) (Iv .u8 l) 25).alloc' (w.heap.size+1) (by first|rfl|simp only[wU]) (Iv .u8 pu) 25).alloc' (w.heap.size+1+1) (by first|rfl|simp only[wU]) (Iv .u8 G) 25).alloc' (w.heap.size+1+1+1) (by first|rfl|simp only[wU]) (Iv .u8 e) 25).alloc' (w.heap.size+1+1+1+1) (by first|rfl|simp only[wU]) (Iv .u8 st) 30).alloc' (w.heap.size+1+1+1+1+1) (by first|rfl|simp only[wU]) (rV 0 (aA 140) (aA 32) (aA 32) 0 0).toArray 39
 go_enter func9,ntmps9
 go_wp2_with fail
 obtain⟨n0,e0⟩:∃n,w.heap.size=n:=⟨_,rfl⟩
 rw[e0]at F0 hw4⊢
 obtain⟨W,hW⟩:∃W,(((((w.alloc (.cells (Iv .u8 l) 25)).alloc (.cells (Iv .u8 pu) 25)).alloc (.cells (Iv .u8 G) 25)).alloc (.cells (Iv .u8 e) 25)).alloc (.cells (Iv .u8 st) 30)).alloc (.cells (rV 0 (aA 140) (aA 32) (aA 32) 0 0).toArray 39)=W:=⟨_,rfl⟩
 rw[hW]at F0⊢
 have S:Hid _:=F0.drew
 have E0:Hid _:=e0
 have H4:Hid (3<w.heap.size):=by show _<_;rw[e0];exact hw4
 clear hW F0 e0 hw4
 refine wRt 7 _ (.held [0,2,3,4] (.fork 1 (.held [5] (.tail 6 (.last 7 .done))) 6 (.tail 1 (.held [5] (.last 7 .done))))) dE (by kernel_rfl) S.out ?_
 obtain⟨y0,ey⟩:∃y,y=W.drew:=⟨_,rfl⟩
 rw[←ey]at S⊢
 clear ey
 refine wTh ?_
 simp only[oS]
 refine wqLr rfl 25 _ rfl (n0+1+1) rfl _ (Iv .u8 G) _ _ (fun w' hw'=>hw'.at (.tail _ (.tail _ (.tail _ (.head _))))) underlying25 rfl (aI hK.out.lG) ?_
 simp only[pS]
 refine aB rfl (.int .i64 m) (fun w'=>by kernel_rfl) ?_
 simp only[pS]
 refine aB rfl (.agg #[.int .i64 m]) (fun w'=>by kernel_rfl) ?_
 simp only[pS]
 refine wqLr rfl 25 _ rfl (n0+1+1) rfl _ (Iv .u8 G) _ _ (fun w' hw'=>hw'.at (.tail _ (.tail _ (.tail _ (.head _))))) underlying25 rfl (aI hK.out.lG) ?_
 simp only[pS]
 refine wqN ?_
 apply cT (.last 7 .done) (fun g v'=>Rn w [rSd g (aA 32) (aA 32) 0 (aA 32),rCr (n0+1+1+1+1+1) 0 (aA 140) (aA 32) (aA 32) 0 0,RU (n0+1+1+1+1) st,eQ (n0+1+1+1) e,eQ (n0+1+1) G,eQ (n0+1) pu,eQ n0 l] v')
 intro hZ
 ·refine wTf ?_ ?_
  ·simp only[oS]
   go_wp2_with fail
   refine(CY.out y0 (HT.out.later S.out.bel (nQ _)) (nJ H4.out S.out.bel.size)).mono ?_
   rintro x Z ⟨rfl,hb⟩
   have S2:Hid _:=S.out.later hb (nQ _)
   clear hb
   go_wp2_with fail
   refine⟨S2.out,?_⟩
   refine wTh ?_
   simp only[oS]
   refine bF rfl 62 _ rfl (MU c h m G).toArray _ (by kernel_rfl) (LL c h G m hK.out.lc hK.out.lh hK.out.lG) ?_
   simp only[pS]
   refine wqN ?_
   refine wTt ?_
   simp only[oS]
   go_wp2_with fail
   have S3:=S2.out.alloc (MU (aA 32) (aA 32) 0 (aA 32)).toArray 62
   refine⟨S3.tail,?_⟩
   obtain⟨g,eg⟩:∃g,g=Z.heap.size:=⟨_,rfl⟩
   rw[←eg]at S3⊢
   clear eg
   exact hZ.out g _ S3
  ·simp only[oS]
   go_wp2_with fail
   have S3:=S.out.alloc (MU (aA 32) (aA 32) 0 (aA 32)).toArray 62
   refine⟨S3.tail,?_⟩
   obtain⟨g,eg⟩:∃g,g=y0.heap.size:=⟨_,rfl⟩
   rw[←eg]at S3⊢
   clear eg
   have S4:Hid _:=S3
   clear S3
   refine wTt ?_
   simp only[oS]
   go_wp2_with fail
   refine(CY.out _ (HT.out.later S4.out.bel (nQ _)) (nJ H4.out S4.out.bel.size)).mono ?_
   rintro x Z ⟨rfl,hb⟩
   have S5:Hid _:=S4.out.later hb (nQ _)
   clear hb
   go_wp2_with fail
   refine⟨S5.out.tail,?_⟩
   refine wTh ?_
   simp only[oS]
   refine bF rfl 62 _ rfl (MU c h m G).toArray _ (by kernel_rfl) (LL c h G m hK.out.lc hK.out.lh hK.out.lG) ?_
   simp only[pS]
   refine wqN ?_
   exact hZ.out g _ S5.out
 intro g v1 H
 have S4:Hid _:=H
 clear H S CY
 refine wTl ?_
 simp only[oS]
 go_wp2_with(refine wpPr rfl 62 _ _ rfl g (MU c h m G).toArray rfl rfl _ _ (S4.out.at (.head _)) (ahC hK.out.lc hK.out.lh hK.out.lG) (akJ hK.out.lc hK.out.lh hK.out.lG) (agC _ _ _ _) ?_)
 intro v2 hP
 have F:Hid _:=S4.out.put0 hP
 clear hP S4
 refine aQ ?_
 go_wp2_with(first
  | refine wpLr rfl 25 _ rfl n0 rfl _ (Iv .u8 l) _ _ (F.out.at (.tail _ (.tail _ (.tail _ (.tail _ (.tail _ (.tail _ (.head _)))))))) underlying25 rfl (aI hK.out.ll) ?_
  | refine wpLr rfl 25 _ rfl (n0+1) rfl _ (Iv .u8 pu) _ _ (F.out.at (.tail _ (.tail _ (.tail _ (.tail _ (.tail _ (.head _))))))) underlying25 rfl (aI hK.out.lpu) ?_
  | refine wpLr rfl 25 _ rfl (n0+1+1+1) rfl _ (Iv .u8 e) _ _ (F.out.at (.tail _ (.tail _ (.tail _ (.head _))))) underlying25 rfl (aI hK.out.le) ?_
  | refine wpLr rfl 30 _ rfl (n0+1+1+1+1) rfl _ (Iv .u8 st) _ _ (F.out.at (.tail _ (.tail _ (.head _)))) underlying30 rfl (iS hK.out.lst) ?_)
 have hg3:3<g:=nJ H4.out (F.out.ge (.head _))
 refine(CC.out g hg3 v2 (F.out.at (.head _)) (HT.out.later F.out.bel (nQ _))).mono ?_
 rintro x Z (⟨hE,rfl,hT⟩|⟨hE1,hE,rfl,hT⟩|⟨hE1,hE2,rfl,hT⟩)
 ·have EV:Hid (crV s p1 p2 Pt X1 X2 C3 H3 m2 m3=rV 0 (aA 140) (aA 32) (aA 32) 29 m2):=by show _=_;unfold crV;rw[if_pos hE]
  have F1:=Rn.turnK (R1:=[]) F.out hT
  have F4:Hid _:=F1.alloc (WL 0 (aA 140)).toArray 37
  clear hT F F1 CC hE
  obtain⟨n2,e2⟩:∃n,Z.heap.size=n:=⟨_,rfl⟩
  rw[e2]at F4
  go_wp2_with(refine wpPr rfl 37 _ _ rfl n2 (WL 0 (aA 140)).toArray rfl rfl _ _ (F4.out.at (.head _)) (qV rfl) (af3 rfl) (uI _ _) ?_)
  intro Z2 hP
  have F5:Hid _:=F4.out.put0 hP
  clear hP F4 e2
  go_wp2_with fail
  refine(zE MT 29 Z2 (HE.out.later F5.out.bel (nQ _))).mono ?_
  rintro x Z3 ⟨rfl,hb⟩
  have F6:Hid _:=F5.out.later hb (nQ _)
  clear hb F5
  have hcm:=O2 (F6.out.at (.tail _ (.head _))) hK.out.lC1 hK.out.lH1
  have hbc:Hid _:=PN 29 m2
  go_wp2_with(first
   | refine aN rfl 39 _ rfl (rV 0 (aA 140) (aA 32) (aA 32) 29 m2).toArray _ (by kernel_rfl) hbc.out ?_
   | refine wpPr rfl 39 _ _ rfl (n0+1+1+1+1+1) (rV 0 (aA 140) (aA 32) (aA 32) 29 m2).toArray rfl rfl _ _ (F6.out.at (.tail _ (.tail _ (.head _)))) (zH rfl rfl rfl) rfl (GD _ _ _ _ _ _) ?_)
  intro Z4 hP
  have F7:Hid _:=F6.out.put2 hP
  clear hP F6 hcm
  go_wp2_with fail
  exact bodyPost_ret (v:=.agg (rV 0 (aA 140) (aA 32) (aA 32) 29 m2).toArray) (results_cell_row rfl _ _ _ _ (rV 0 (aA 140) (aA 32) (aA 32) 29 m2).toArray _ _ rfl (F7.out.at (.tail _ (.tail _ (.head _)))) underlying39 rfl (zH rfl rfl rfl)) rfl ⟨by rw[EV.out],F7.out.bel⟩
 ·have EV:Hid (crV s p1 p2 Pt X1 X2 C3 H3 m2 m3=rV 0 (aA 140) (aA 32) (aA 32) 29 m3):=by show _=_;unfold crV;rw[if_neg hE1,if_pos hE]
  have F1:=Rn.turnK (R1:=[]) F.out hT
  have F4:Hid _:=F1.alloc (WL 0 (aA 140)).toArray 37
  clear hT F F1 CC hE1 hE
  obtain⟨n2,e2⟩:∃n,Z.heap.size=n:=⟨_,rfl⟩
  rw[e2]at F4
  go_wp2_with(refine wpPr rfl 37 _ _ rfl n2 (WL 0 (aA 140)).toArray rfl rfl _ _ (F4.out.at (.head _)) (qV rfl) (af3 rfl) (uI _ _) ?_)
  intro Z2 hP
  have F5:Hid _:=F4.out.put0 hP
  clear hP F4 e2
  go_wp2_with fail
  refine(zE SF 29 Z2 (HE.out.later F5.out.bel (nQ _))).mono ?_
  rintro x Z3 ⟨rfl,hb⟩
  have F6:Hid _:=F5.out.later hb (nQ _)
  clear hb F5
  have hcm:=O2 (F6.out.at (.tail _ (.head _))) hK.out.lC2 hK.out.lH2
  have hbc:Hid _:=PN 29 m3
  go_wp2_with(first
   | refine aN rfl 39 _ rfl (rV 0 (aA 140) (aA 32) (aA 32) 29 m3).toArray _ (by kernel_rfl) hbc.out ?_
   | refine wpPr rfl 39 _ _ rfl (n0+1+1+1+1+1) (rV 0 (aA 140) (aA 32) (aA 32) 29 m3).toArray rfl rfl _ _ (F6.out.at (.tail _ (.tail _ (.head _)))) (zH rfl rfl rfl) rfl (GD _ _ _ _ _ _) ?_)
  intro Z4 hP
  have F7:Hid _:=F6.out.put2 hP
  clear hP F6 hcm
  go_wp2_with fail
  exact bodyPost_ret (v:=.agg (rV 0 (aA 140) (aA 32) (aA 32) 29 m3).toArray) (results_cell_row rfl _ _ _ _ (rV 0 (aA 140) (aA 32) (aA 32) 29 m3).toArray _ _ rfl (F7.out.at (.tail _ (.tail _ (.head _)))) underlying39 rfl (zH rfl rfl rfl)) rfl ⟨by rw[EV.out],F7.out.bel⟩
 ·have EV:Hid (crV s p1 p2 Pt X1 X2 C3 H3 m2 m3=rV s (qE Pt X1 X2) C3 H3 30 m3):=by show _=_;unfold crV;rw[if_neg hE1,if_neg hE2]
  have F1:=Rn.turnK (R1:=[]) F.out hT
  have F4:Hid _:=F1.alloc (WL 0 (aA 140)).toArray 37
  clear hT F F1 CC hE1 hE2
  obtain⟨n2,e2⟩:∃n,Z.heap.size=n:=⟨_,rfl⟩
  rw[e2]at F4
  go_wp2_with(refine wpPr rfl 37 _ _ rfl n2 (WL 0 (qE Pt X1 X2)).toArray rfl rfl _ _ (F4.out.at (.head _)) (qV (jG hK.out.lPt hK.out.lX1 hK.out.lX2)) (af3 (jG hK.out.lPt hK.out.lX1 hK.out.lX2)) (uI _ _) ?_)
  intro Z2 hP
  have F5:Hid _:=F4.out.put0 hP
  clear hP F4 e2
  go_wp2_with fail
  refine(IC Z2).mono ?_
  rintro x Z3 ⟨rfl,hb⟩
  have F6:Hid _:=F5.out.later hb (nQ _)
  clear hb F5
  go_wp2_with(refine nT rfl 32 _ _ rfl .u32 n2 0 s rfl rfl (WL 0 (qE Pt X1 X2)) _ (F6.out.at (.head _)) ahD (by rw[kT];omega) _ (ad8 0 s _) ?_)
  intro Z4 hP
  have F7:Hid _:=F6.out.put0 hP
  clear hP F6
  have hcm:=O2 (F7.out.at (.tail _ (.head _))) hK.out.lC3 hK.out.lH3
  have hcc:Hid _:=afO (F7.out.at (.tail _ (.head _))) hK.out.lC3
  have hch:Hid _:=adK (F7.out.at (.tail _ (.head _))) hK.out.lC3 hK.out.lH3
  have hbc:Hid _:=abU s (qE Pt X1 X2) C3 H3 30 m3 (jG hK.out.lPt hK.out.lX1 hK.out.lX2) hK.out.lC3 hK.out.lH3
  go_wp2_with(first
   | refine wpLr rfl 37 _ rfl n2 rfl _ (WL s (qE Pt X1 X2)).toArray _ _ (F7.out.at (.head _)) underlying37 rfl (qV (jG hK.out.lPt hK.out.lX1 hK.out.lX2)) ?_
   | refine wpList_load_mid rfl 25 _ rfl g 0 rfl (C3.map (Value.int .u8)) _ hcc.out underlying25 rfl (dK hK.out.lC3) ?_
   | refine wpList_load_mid rfl 25 _ rfl g 32 rfl (H3.map (Value.int .u8)) _ hch.out underlying25 rfl (dK hK.out.lH3) ?_
   | refine aN rfl 39 _ rfl (rV s (qE Pt X1 X2) C3 H3 30 m3).toArray _ (by kernel_rfl) hbc.out ?_
   | refine wpPr rfl 39 _ _ rfl (n0+1+1+1+1+1) (rV s (qE Pt X1 X2) C3 H3 30 m3).toArray rfl rfl _ _ (F7.out.at (.tail _ (.tail _ (.head _)))) (zH (jG hK.out.lPt hK.out.lX1 hK.out.lX2) hK.out.lC3 hK.out.lH3) (akG (jG hK.out.lPt hK.out.lX1 hK.out.lX2) hK.out.lC3 hK.out.lH3) (GD _ _ _ _ _ _) ?_)
  intro Z5 hP
  have F8:Hid _:=F7.out.put2 hP
  clear hP F7 hcm hcc hch hbc
  go_wp2_with fail
  exact bodyPost_ret (v:=.agg (rV s (qE Pt X1 X2) C3 H3 30 m3).toArray) (results_cell_row rfl _ _ _ _ (rV s (qE Pt X1 X2) C3 H3 30 m3).toArray _ _ rfl (F8.out.at (.tail _ (.tail _ (.head _)))) underlying39 rfl (zH (jG hK.out.lPt hK.out.lX1 hK.out.lX2) hK.out.lC3 hK.out.lH3)) rfl ⟨by rw[EV.out],F8.out.bel⟩
abbrev Xs:=List (Nat×Nat×LI)
structure Sp (w:World) (R:Rs) (X:Xs) (y:World):Prop where
 rn:Rn w R y
 sl:∀q∈X,Sl y q.1 q.2.1 q.2.2∧∀r∈R,r.1≠q.1
theorem Sl.put {y z:World} {g o b:Nat} {l:LI} {cs:Array Value} {t:TypeId} (h:Sl y g o l) (hP:nE y b cs t z) (hne:b≠g):Sl z g o l:=
 ⟨by rw[hP.size];exact h.1,fun i hi=>(WN (hP.far g (Ne.symm hne)) _).trans (h.2 i hi)⟩
section
variable {w y z:World} {R:Rs} {X:Xs}
theorem Sp.of (h:Rn w R y):Sp w R [] y:=⟨h,fun q hq=>by cases hq⟩
theorem Sp.at (h:Sp w R X y) {g:Nat} {v:Array Value} {u:TypeId} (hr:(g,v,u)∈R):y.heap[g]? =some (.cells v u):=h.rn.at hr
theorem Sp.s (h:Sp w R X y) {g o:Nat} {l:LI} (hq:(g,o,l)∈X):Sl y g o l:=(h.sl _ hq).1
theorem Sp.later (h:Sp w R X y) (hb:Below y.heap.size y z):Sp w R X z:=⟨h.rn.later hb (nQ _),fun q hq=>⟨Sl.later (h.sl q hq).1 hb (h.sl q hq).1.1,(h.sl q hq).2⟩⟩
theorem Sp.drew (h:Sp w R X y):Sp w R X y.drew:=h.later (bDr (Below.refl _ _) 1)
theorem Sp.alloc (h:Sp w R X y) (n:Nat) (hn:y.heap.size=n) (v:Array Value) (u:TypeId):Sp w ((n,v,u)::R) X (y.alloc (.cells v u)):=by
 subst hn
 have hb:Below y.heap.size y (y.alloc (.cells v u)):=(Below.refl _ _).alloc (nQ _) _
 refine⟨h.rn.alloc v u,fun q hq=>⟨Sl.later (h.sl q hq).1 hb (h.sl q hq).1.1,fun r hr=>?_⟩⟩
 rcases List.mem_cons.1 hr with rfl|hr
 ·have:=(h.sl q hq).1.1;show y.heap.size≠q.1;omega
 ·exact(h.sl q hq).2 r hr
theorem Sp.put (i:Nat) {b:Nat} {cs cs':Array Value} {t:TypeId} (h:Sp w R X y) (hi:R[i]? =some (b,cs,t)) (hP:nE y b cs' t z):Sp w (R.take i++(b,cs',t)::R.drop (i+1)) X z:=by
 have hm:(b,cs,t)∈R:=List.mem_of_getElem? hi
 refine⟨h.rn.putI i hi hP,fun q hq=>⟨Sl.put (h.sl q hq).1 hP ((h.sl q hq).2 _ hm),fun r hr=>?_⟩⟩
 rcases mY.1 hr with hr|hr
 ·exact(h.sl q hq).2 r (List.mem_of_mem_take hr)
 ·rcases List.mem_cons.1 hr with rfl|hr
  ·exact(h.sl q hq).2 (b,cs,t) hm
  ·exact(h.sl q hq).2 r (List.mem_of_mem_drop hr)
theorem Sp.gain (h:Sp w R X y) (hb:Below y.heap.size y z) {g o:Nat} {l:LI} (hg:y.heap.size≤g) (hS:Sl z g o l):Sp w R ((g,o,l)::X) z:=by
 have h1:=h.later hb
 refine⟨h1.rn,fun q hq=>?_⟩
 rcases List.mem_cons.1 hq with rfl|hq
 ·exact⟨hS,fun r hr=>by have:=(h.rn.rw.row r hr).2.1;show r.1≠g;omega⟩
 ·exact h1.sl q hq
theorem Sp.more {g o o':Nat} {l l':LI} (h:Sp w R ((g,o,l)::X) y) (hS:Sl y g o' l'):Sp w R ((g,o',l')::(g,o,l)::X) y:=by
 refine⟨h.rn,fun q hq=>?_⟩
 rcases List.mem_cons.1 hq with rfl|hq
 ·exact⟨hS,(h.sl _ (.head _)).2⟩
 ·exact h.sl q hq
theorem Sp.drop {q:Nat×Nat×LI} (h:Sp w R (q::X) y):Sp w R X y:=⟨h.rn,fun p hp=>h.sl p (.tail _ hp)⟩
end
theorem aeQ:(prog.info? 5).map (·.size)=some 1:=by kernel_rfl
def KI (key h box:LI) (n:Nat):Prop:=FY (blk key zn) h (box.take n)=box.drop n
def opX (key box:LI) (n:Nat):LI:=iW (blk key zn) (box.take n) n
theorem GI (key box:LI) (n:Nat):(opX key box n).length=n:=eF _ _ _
theorem agE (key box:LI) (n:Nat):aC (opX key box n):=zV _ _ _
theorem acX (c h key box:LI) (r:List Value) (hc:c.length=32) (hh:h.length=32) (hk:key.length=32) (hhb:aC h) (hkb:aC key) (hxb:aC box) (n:Nat) (hn:box.length=n+16) (hn0:0<n) (hn2:n≤65000) (tg to_ tc:Nat) (htc:n+16≤tc) (htc2:tc≤9223372036854775807) (b:Nat) (hb3:3<b) (t:TypeId) (w:World) (hr:w.heap[b]? =some (.cells (dF c h r).toArray t)) (ht:cN w) (hS:Sl w tg to_ box) (hne:tg≠b):
 Calls prog 68 #[.pointer (some ⟨b,0,none⟩),.agg (Iv .u8 key),.slice (some ⟨tg,to_,none⟩) (n+16) tc] w fun x w'=>
  (¬KI key h box n∧x=.returned (.tuple #[.slice none 0 0,.bool false])∧Tn w b (dF c h r) t w')∨
  (KI key h box n∧∃g cap,x=.returned (.tuple #[.slice (some ⟨g,0,none⟩) n cap,.bool true])∧w.heap.size≤g∧n≤cap∧cap≤9223372036854775807∧Sl w' g 0 (opX key box n)∧Tn w b (dF c (dC (h++box)) r) t w'):=by
 have HC:Hid _:=hc
 have H32:Hid _:=hh
 have Hkey:Hid _:=hk
 have HHB:Hid _:=hhb
 have HKB:Hid _:=hkb
 have HXB:Hid _:=hxb
 have HN:Hid _:=hn
 have HTC:Hid (n+16≤tc∧tc≤9223372036854775807∧0<n∧n≤65000):=⟨htc,htc2,hn0,hn2⟩
 have HT:Hid (cN w):=ht
 have HS:Hid (Sl w tg to_ box∧tg≠b):=⟨hS,hne⟩
 have S0:Hid _:=Sx.start hr
 clear hc hh hk hhb hkb hxb hn hn0 hn2 htc htc2 ht hr hS hne
 go_enter func68,ntmps68
 go_wp2_with fail
 obtain⟨n0,e0⟩:∃n,w.heap.size=n:=⟨_,rfl⟩
 have S1:=S0.out.alloc n0 e0 (Iv .u8 key) 25
 rw[e0]
 obtain⟨W,hW⟩:∃W,w.alloc (.cells (Iv .u8 key) 25)=W:=⟨_,rfl⟩
 rw[hW]at S1⊢
 have S:Hid _:=S1.drew
 have E0:Hid _:=e0
 clear hW S1 S0 e0
 refine wRt 12 _ (.held [0,1,2,3,4,5,6] (.tail 7 (.held [8,9,10] (.tail 11 (.last 12 .done))))) dE (by kernel_rfl) S.out ?_
 obtain⟨y0,ey⟩:∃y,y=W.drew:=⟨_,rfl⟩
 rw[←ey]at S⊢
 clear ey
 refine wTh ?_
 simp only[oS]
 refine wqLr rfl 25 _ rfl n0 rfl _ (Iv .u8 key) _ _ (fun w' hw'=>hw'.at (.head _)) underlying25 rfl (aI Hkey.out) ?_
 simp only[pS]
 refine aB rfl (.agg (Iv .u8 zn)) (fun w'=>by kernel_rfl) ?_
 simp only[pS]
 refine aB rfl (.slice (some ⟨tg,to_,none⟩) (n+16) tc) (fun w'=>by kernel_rfl) ?_
 simp only[pS]
 refine aB rfl (.pointer (some ⟨b,0,none⟩)) (fun w'=>by kernel_rfl) ?_
 simp only[pS]
 refine aB rfl (.pointer (some ⟨b,0,none⟩)) (fun w'=>by kernel_rfl) ?_
 simp only[pS]
 refine aB rfl (.pointer (some ⟨b,32,none⟩)) (fun w'=>by kernel_rfl) ?_
 simp only[pS]
 refine aB rfl (.slice (some ⟨b,32,none⟩) 32 32) (fun w'=>by kernel_rfl) ?_
 simp only[pS]
 refine wqN ?_
 refine wTt ?_
 simp only[oS]
 go_wp2_with fail
 refine(J9 JH key zn Hkey.out rfl (blk key zn) (TL key zn) (IB key zn Hkey.out rfl HKB.out aiS) (NN key zn) box h _ _ n 32 rfl rfl HN.out H32.out (by have:=HTC.out.2.2.2;omega) (by decide) HXB.out HHB.out tg to_ tc b 32 32 y0 (HS.out.1.turn S.out.tn HS.out.2) (Sl.of_range (Array.getElem?_eq_some_iff.1 S.out.here).1 (adK S.out.here HC.out H32.out)) HTC.out.1 HTC.out.2.1 (S.out.tabs HT.out hb3).mix _ rfl).mono ?_
 rintro x y1 ⟨hyes,hno,hb1⟩
 have S1:Hid _:=S.out.later hb1
 by_cases hT:KI key h box n
 ·obtain⟨v,rfl,hO,hv⟩:=hyes hT
  obtain⟨g,cap,rfl,hg1,hg2,hg3,hg4,hg5, -⟩:=hO.held n (GI key box n) HTC.out.2.2.1
  have G:Hid (Sl y1 g 0 (opX key box n)):=Sl.of_own hO
  have hn0:=S.out.tn.size
  have GN:Hid (g≠b):=by show _≠_;have h1:=(Array.getElem?_eq_some_iff.1 S.out.here).1;omega
  have GC:Hid (w.heap.size≤g∧n≤cap∧cap≤9223372036854775807):=⟨by omega,hg3,hg4⟩
  have HTT:Hid _:=hT
  clear hyes hno hb1 hO hv hg1 hg2 hg3 hg4 hg5 hn0 S hT
  go_wp2_with fail
  refine⟨S1.out,?_⟩
  refine wTh ?_
  simp only[oS]
  refine aB rfl (.tuple #[.slice (some ⟨g,0,none⟩) n cap,.bool true]) (fun w'=>by kernel_rfl) ?_
  simp only[pS]
  refine aB rfl (.slice (some ⟨g,0,none⟩) n cap) (fun w'=>by kernel_rfl) ?_
  simp only[pS]
  refine aB rfl (.bool true) (fun w'=>by kernel_rfl) ?_
  simp only[pS]
  refine wqN ?_
  refine wTt ?_
  simp only[oS]
  go_wp2_with fail
  refine⟨S1.out,?_⟩
  refine wTl ?_
  simp only[oS]
  go_wp2_with fail
  refine aQ ?_
  go_wp2_with fail
  refine(sI c h box r HC.out H32.out HHB.out (some ⟨tg,to_,none⟩) (n+16) tc (by have h1:=HN.out;have h2:=HTC.out.2.2.2;omega) b t y1 ⟨_,_,_,rfl,HN.out,HTC.out.1,HTC.out.2.1,HXB.out,.inr ⟨tg,to_,rfl,fun j hj=>(HS.out.1.turn S1.out.tn HS.out.2).2 j (by rw[HN.out];exact hj)⟩⟩ S1.out.here (S1.out.tabs HT.out hb3)).mono ?_
  rintro x y2 ⟨rfl,hT⟩
  have S2:Hid _:=S1.out.turn hT
  have G2:Hid _:=G.out.turn hT GN.out
  clear hT S1
  go_wp2_with fail
  exact bodyPost_ret (v:=.tuple #[.slice (some ⟨g,0,none⟩) n cap,.bool true]) (by kernel_rfl) rfl (.inr ⟨HTT.out,g,cap,rfl,GC.out.1,GC.out.2.1,GC.out.2.2,G2.out,S2.out.tn⟩)
 ·obtain rfl:=hno hT
  have HTT:Hid _:=hT
  clear hyes hno hb1 S hT
  go_wp2_with fail
  refine⟨S1.out,?_⟩
  refine wTh ?_
  simp only[oS]
  refine aB rfl (.tuple #[.slice none 0 0,.bool false]) (fun w'=>by kernel_rfl) ?_
  simp only[pS]
  refine aB rfl (.slice none 0 0) (fun w'=>by kernel_rfl) ?_
  simp only[pS]
  refine aB rfl (.bool false) (fun w'=>by kernel_rfl) ?_
  simp only[pS]
  refine wqN ?_
  refine wTt ?_
  simp only[oS]
  go_wp2_with fail
  refine⟨S1.out,?_⟩
  refine wTl ?_
  simp only[oS]
  go_wp2_with fail
  refine aQ ?_
  go_wp2_with fail
  exact bodyPost_ret (v:=.tuple #[.slice none 0 0,.bool false]) (by kernel_rfl) rfl (.inl ⟨HTT.out,rfl,S1.out.tn⟩)
def PG (c p:LI):LI:=fF (fJ c p) 1
theorem A9 (c h l q box:LI) (m k:Int) (hc:c.length=32) (hh:h.length=32) (hl:l.length=32) (hq:q.length=32) (hcb:aC c) (hhb:aC h) (hlb:aC l) (hqb:aC q) (hxb:aC box) (n:Nat) (hn:box.length=n+16) (hn0:0<n) (hn2:n≤65000) (tg to_ tc:Nat) (htc:n+16≤tc) (htc2:tc≤9223372036854775807) (b:Nat) (hb3:3<b) (t:TypeId) (w:World) (hr:w.heap[b]? =some (.cells (dF c h (.int .i64 m::l.map (Value.int .u8))).toArray t)) (ht:cN w) (hS:Sl w tg to_ box) (hne:tg≠b):
 Calls prog 44 #[.pointer (some ⟨b,0,none⟩),.agg (Iv .u8 q),.slice (some ⟨tg,to_,none⟩) (n+16) tc,.int .i64 k] w fun x w'=>
  (fW l q=aA 32∧x=.returned (.tuple #[.slice none 0 0,jU 29])∧Tn w b (dF c h (.int .i64 (IntKind.i64.wrap (m+1))::l.map (Value.int .u8))) t w')∨
  (fW l q≠aA 32∧¬KI (PG c (fW l q)) h box n∧x=.returned (.tuple #[.slice none 0 0,jU k])∧Tn w b (dF (sfC c (fW l q)) h (.int .i64 (IntKind.i64.wrap (m+1))::l.map (Value.int .u8))) t w')∨
  (fW l q≠aA 32∧KI (PG c (fW l q)) h box n∧∃g cap,x=.returned (.tuple #[.slice (some ⟨g,0,none⟩) n cap,.nilIface])∧w.heap.size≤g∧n≤cap∧cap≤9223372036854775807∧Sl w' g 0 (opX (PG c (fW l q)) box n)∧Tn w b (dF (sfC c (fW l q)) (dC (h++box)) (.int .i64 (IntKind.i64.wrap (m+1))::l.map (Value.int .u8))) t w'):=by
 have CP:Hid (∀(W:World) (hr:W.heap[b]? =some (.cells (dF c h (.int .i64 m::l.map (Value.int .u8))).toArray t)),_):=fun W hr=>EY c h l q m (l.map (Value.int .u8)) hc hh hl hlb hq hqb b t W hr
 obtain⟨p,ep⟩:∃p,fW l q=p:=⟨_,rfl⟩
 have hpl:Hid (p.length=32):=by show _=_;rw[←ep];exact bA _ _
 have hpb:Hid (aC p):=by show aC _;rw[←ep];exact pH _ _
 rw[ep]at CP⊢
 clear ep
 obtain⟨v,ev⟩:∃x,IntKind.i64.wrap (m+1)=x:=⟨_,rfl⟩
 rw[ev]at CP⊢
 clear ev
 have HC:Hid _:=hc
 have H32:Hid _:=hh
 have Hq:Hid _:=hq
 have HG:Hid _:=hl
 have HCB:Hid _:=hcb
 have HHB:Hid _:=hhb
 have HXB:Hid _:=hxb
 have HN:Hid _:=hn
 have HTC:Hid (n+16≤tc∧tc≤9223372036854775807∧0<n∧n≤65000):=⟨htc,htc2,hn0,hn2⟩
 have HT:Hid (cN w):=ht
 have HS:Hid (Sl w tg to_ box∧tg≠b):=⟨hS,hne⟩
 have S0:Hid _:=Sx.start hr
 clear hc hh hl hq hcb hhb hlb hqb hxb hn hn0 hn2 htc htc2 ht hr hS hne
 obtain⟨G',eG⟩:∃x,l.map (Value.int .u8)=x:=⟨_,rfl⟩
 have EG:Hid _:=eG
 rw[eG]at CP S0⊢
 clear eG
 by_cases hE:p=aA 32
 ·refine Calls.mono (R:=fun x w'=>x=.returned (.tuple #[.slice none 0 0,jU 29])∧Tn w b (dF c h (.int .i64 v::G')) t w') ?_ (fun x w' hx=>.inl ⟨hE,hx⟩)
  rw[if_pos hE]at CP
  clear hE
  go_enter func44,ntmps44
  go_wp2_with fail
  obtain⟨n0,e0⟩:∃n,w.heap.size=n:=⟨_,rfl⟩
  have S1:=S0.out.alloc n0 e0 (Iv .u8 q) 25
  rw[e0]
  obtain⟨W,hW⟩:∃W,w.alloc (.cells (Iv .u8 q) 25)=W:=⟨_,rfl⟩
  rw[hW]at S1⊢
  have S:Hid _:=S1.drew
  have E0:Hid _:=e0
  have hz:=dM
  refine wRt 14 (fun v=>∃m',Sx w b (dF c h (.int .i64 m'::G')) t [eQ n0 q] v) (.held [0,1,2,3,4,5,6,7] (.fork 8 (.held [9,10,11] (.tail 12 (.tail 13 (.last 14 .done)))) 12 (.tail 8 (.held [9,10,11] (.tail 13 (.last 14 .done)))))) dE (by kernel_rfl) ⟨m,S.out⟩ ?_
  obtain⟨y0,ey⟩:∃y,y=W.drew:=⟨_,rfl⟩
  rw[←ey]at S⊢
  clear ey
  refine wTh ?_
  simp only[oS]
  refine aB rfl (.pointer (some ⟨b,0,none⟩)) (fun w'=>by kernel_rfl) ?_
  simp only[pS]
  refine aB rfl (.pointer (some ⟨b,0,none⟩)) (fun w'=>by kernel_rfl) ?_
  simp only[pS]
  refine aB rfl (.pointer (some ⟨b,64,none⟩)) (fun w'=>by kernel_rfl) ?_
  simp only[pS]
  refine aB rfl (.pointer (some ⟨b,0,none⟩)) (fun w'=>by kernel_rfl) ?_
  simp only[pS]
  refine aB rfl (.pointer (some ⟨b,0,none⟩)) (fun w'=>by kernel_rfl) ?_
  simp only[pS]
  refine aB rfl (.pointer (some ⟨b,65,none⟩)) (fun w'=>by kernel_rfl) ?_
  simp only[pS]
  refine wqLm rfl 25 _ rfl b 65 rfl (l.map (Value.int .u8)) _ (fun w' hw'=>by obtain⟨m',hx⟩:=hw';exact afP (by rw[EG.out];exact hx.here) HC.out H32.out HG.out) underlying25 rfl (dK HG.out) ?_
  simp only[pS]
  refine wqLr rfl 25 _ rfl n0 rfl _ (Iv .u8 q) _ _ (fun w' hw'=>by obtain⟨m',hx⟩:=hw';exact hx.at (.head _)) underlying25 rfl (aI Hq.out) ?_
  simp only[pS]
  refine wqN ?_
  apply cT (.tail 13 (.last 14 .done)) (fun g v'=>Sx w b (dF c h (.int .i64 v::G')) t [eQ g (aA 32),eQ n0 q] v')
  intro hZ
  ·refine wTf ?_ ?_
   ·simp only[oS]
    go_wp2_with fail
    refine(CP.out _ S.out.here).mono ?_
    rintro e Z ⟨rfl,hT⟩
    have S2:Hid _:=S.out.turn hT
    go_wp2_with fail
    refine⟨⟨v,S2.out⟩,?_⟩
    refine wTh ?_
    simp only[oS]
    refine aB rfl (.tuple #[.agg (Iv .u8 p),jU 29]) (fun w'=>by kernel_rfl) ?_
    simp only[pS]
    refine aB rfl (.agg (Iv .u8 p)) (fun w'=>by kernel_rfl) ?_
    simp only[pS]
    refine aB rfl (jU 29) (fun w'=>by kernel_rfl) ?_
    simp only[pS]
    refine wqN ?_
    refine wTt ?_
    simp only[oS]
    go_wp2_with fail
    have S3:=S2.out.alloc _ rfl (Iv .u8 (aA 32)) 25
    refine⟨⟨v,S3.tail⟩,?_⟩
    obtain⟨g,eg⟩:∃g,g=Z.heap.size:=⟨_,rfl⟩
    rw[←eg]at S3⊢
    exact hZ.out g _ S3
   ·simp only[oS]
    go_wp2_with fail
    have S3:=S.out.alloc _ rfl (Iv .u8 (aA 32)) 25
    refine⟨⟨m,S3.tail⟩,?_⟩
    obtain⟨g,eg⟩:∃g,g=y0.heap.size:=⟨_,rfl⟩
    rw[←eg]at S3⊢
    clear eg
    have S4:Hid _:=S3
    refine wTt ?_
    simp only[oS]
    go_wp2_with fail
    refine(CP.out _ S4.out.here).mono ?_
    rintro e Z ⟨rfl,hT⟩
    have S5:Hid _:=S4.out.turn hT
    go_wp2_with fail
    refine⟨⟨v,S5.out.tail⟩,?_⟩
    refine wTh ?_
    simp only[oS]
    refine aB rfl (.tuple #[.agg (Iv .u8 p),jU 29]) (fun w'=>by kernel_rfl) ?_
    simp only[pS]
    refine aB rfl (.agg (Iv .u8 p)) (fun w'=>by kernel_rfl) ?_
    simp only[pS]
    refine aB rfl (jU 29) (fun w'=>by kernel_rfl) ?_
    simp only[pS]
    refine wqN ?_
    exact hZ.out g _ S5.out
  intro g v1 H
  have S4:Hid _:=H
  clear H S CP
  refine wTt ?_
  simp only[oS]
  go_wp2_with(refine wpPr rfl 25 _ _ rfl g (Iv .u8 p) rfl rfl _ _ (S4.out.at (.head _)) (aI hpl.out) (kK hpl.out) (aG _ _) ?_)
  intro v2 hP
  have S5:Hid _:=S4.out.put0 hP
  clear hP S4
  go_wp2_with fail
  refine⟨⟨v,S5.out.tail⟩,?_⟩
  refine wTl ?_
  simp only[oS]
  go_wp2_with fail
  refine aQ ?_
  go_wp2_with fail
  exact bodyPost_ret (v:=.tuple #[.slice none 0 0,jU 29]) (by kernel_rfl) rfl ⟨rfl,S5.out.tn⟩
 ·refine Calls.mono (R:=fun x w'=>(¬KI (PG c p) h box n∧x=.returned (.tuple #[.slice none 0 0,jU k])∧Tn w b (dF (sfC c p) h (.int .i64 v::G')) t w')∨(KI (PG c p) h box n∧∃g cap,x=.returned (.tuple #[.slice (some ⟨g,0,none⟩) n cap,.nilIface])∧w.heap.size≤g∧n≤cap∧cap≤9223372036854775807∧Sl w' g 0 (opX (PG c p) box n)∧Tn w b (dF (sfC c p) (dC (h++box)) (.int .i64 v::G')) t w')) ?_ (fun x w' hx=>.inr (hx.imp (fun h=>⟨hE,h⟩) (fun h=>⟨hE,h⟩)))
  rw[if_neg hE]at CP
  clear hE
  go_enter func44,ntmps44
  go_wp2_with fail
  obtain⟨n0,e0⟩:∃n,w.heap.size=n:=⟨_,rfl⟩
  have S1:=S0.out.alloc n0 e0 (Iv .u8 q) 25
  rw[e0]
  obtain⟨W,hW⟩:∃W,w.alloc (.cells (Iv .u8 q) 25)=W:=⟨_,rfl⟩
  rw[hW]at S1⊢
  have S:Hid _:=S1.drew
  have E0:Hid _:=e0
  clear hW S1 S0 e0
  have hz:=dM
  refine wRt 14 (fun v=>∃m',Sx w b (dF c h (.int .i64 m'::G')) t [eQ n0 q] v) (.held [0,1,2,3,4,5,6,7] (.fork 8 (.held [9,10,11] (.tail 12 (.tail 13 (.last 14 .done)))) 12 (.tail 8 (.held [9,10,11] (.tail 13 (.last 14 .done)))))) dE (by kernel_rfl) ⟨m,S.out⟩ ?_
  obtain⟨y0,ey⟩:∃y,y=W.drew:=⟨_,rfl⟩
  rw[←ey]at S⊢
  clear ey
  refine wTh ?_
  simp only[oS]
  refine aB rfl (.pointer (some ⟨b,0,none⟩)) (fun w'=>by kernel_rfl) ?_
  simp only[pS]
  refine aB rfl (.pointer (some ⟨b,0,none⟩)) (fun w'=>by kernel_rfl) ?_
  simp only[pS]
  refine aB rfl (.pointer (some ⟨b,64,none⟩)) (fun w'=>by kernel_rfl) ?_
  simp only[pS]
  refine aB rfl (.pointer (some ⟨b,0,none⟩)) (fun w'=>by kernel_rfl) ?_
  simp only[pS]
  refine aB rfl (.pointer (some ⟨b,0,none⟩)) (fun w'=>by kernel_rfl) ?_
  simp only[pS]
  refine aB rfl (.pointer (some ⟨b,65,none⟩)) (fun w'=>by kernel_rfl) ?_
  simp only[pS]
  refine wqLm rfl 25 _ rfl b 65 rfl (l.map (Value.int .u8)) _ (fun w' hw'=>by obtain⟨m',hx⟩:=hw';exact afP (by rw[EG.out];exact hx.here) HC.out H32.out HG.out) underlying25 rfl (dK HG.out) ?_
  simp only[pS]
  refine wqLr rfl 25 _ rfl n0 rfl _ (Iv .u8 q) _ _ (fun w' hw'=>by obtain⟨m',hx⟩:=hw';exact hx.at (.head _)) underlying25 rfl (aI Hq.out) ?_
  simp only[pS]
  refine wqN ?_
  apply cT (.tail 13 (.last 14 .done)) (fun g v'=>Sx w b (dF c h (.int .i64 v::G')) t [eQ g (aA 32),eQ n0 q] v')
  intro hZ
  ·refine wTf ?_ ?_
   ·simp only[oS]
    go_wp2_with fail
    refine(CP.out _ S.out.here).mono ?_
    rintro e Z ⟨rfl,hT⟩
    have S2:Hid _:=S.out.turn hT
    clear hT
    go_wp2_with fail
    refine⟨⟨v,S2.out⟩,?_⟩
    refine wTh ?_
    simp only[oS]
    refine aB rfl (.tuple #[.agg (Iv .u8 p),.nilIface]) (fun w'=>by kernel_rfl) ?_
    simp only[pS]
    refine aB rfl (.agg (Iv .u8 p)) (fun w'=>by kernel_rfl) ?_
    simp only[pS]
    refine aB rfl (.nilIface) (fun w'=>by kernel_rfl) ?_
    simp only[pS]
    refine wqN ?_
    refine wTt ?_
    simp only[oS]
    go_wp2_with fail
    have S3:=S2.out.alloc _ rfl (Iv .u8 (aA 32)) 25
    refine⟨⟨v,S3.tail⟩,?_⟩
    obtain⟨g,eg⟩:∃g,g=Z.heap.size:=⟨_,rfl⟩
    rw[←eg]at S3⊢
    clear eg
    exact hZ.out g _ S3
   ·simp only[oS]
    go_wp2_with fail
    have S3:=S.out.alloc _ rfl (Iv .u8 (aA 32)) 25
    refine⟨⟨m,S3.tail⟩,?_⟩
    obtain⟨g,eg⟩:∃g,g=y0.heap.size:=⟨_,rfl⟩
    rw[←eg]at S3⊢
    clear eg
    have S4:Hid _:=S3
    clear S3
    refine wTt ?_
    simp only[oS]
    go_wp2_with fail
    refine(CP.out _ S4.out.here).mono ?_
    rintro e Z ⟨rfl,hT⟩
    have S5:Hid _:=S4.out.turn hT
    clear hT
    go_wp2_with fail
    refine⟨⟨v,S5.out.tail⟩,?_⟩
    refine wTh ?_
    simp only[oS]
    refine aB rfl (.tuple #[.agg (Iv .u8 p),.nilIface]) (fun w'=>by kernel_rfl) ?_
    simp only[pS]
    refine aB rfl (.agg (Iv .u8 p)) (fun w'=>by kernel_rfl) ?_
    simp only[pS]
    refine aB rfl (.nilIface) (fun w'=>by kernel_rfl) ?_
    simp only[pS]
    refine wqN ?_
    exact hZ.out g _ S5.out
  intro g v1 H
  have S4:Hid _:=H
  clear H S CP
  refine wTt ?_
  simp only[oS]
  go_wp2_with(refine wpPr rfl 25 _ _ rfl g (Iv .u8 p) rfl rfl _ _ (S4.out.at (.head _)) (aI hpl.out) (kK hpl.out) (aG _ _) ?_)
  intro v2 hP
  have S5:Hid _:=S4.out.put0 hP
  clear hP S4
  go_wp2_with fail
  refine⟨⟨v,S5.out.tail⟩,?_⟩
  refine wTl ?_
  simp only[oS]
  go_wp2_with fail
  refine aQ ?_
  go_wp2_with fail
  have S6:Hid _:=S5.out.drew
  clear S5
  refine wRt 14 (fun v=>∃cs,Sx w b cs t [eQ g p,eQ n0 q] v) (.held [0,1,2,3,4,5,6,8] (.tail 7 (.tail 9 (.held [10,11,12] (.tail 13 (.last 14 .done)))))) dE (by kernel_rfl) ⟨_,S6.out⟩ ?_
  obtain⟨y6,ey⟩:∃y,y=v2.drew:=⟨_,rfl⟩
  rw[←ey]at S6⊢
  clear ey
  refine wTh ?_
  simp only[oS]
  refine aB rfl (.pointer (some ⟨b,0,none⟩)) (fun w'=>by kernel_rfl) ?_
  simp only[pS]
  refine aB rfl (.pointer (some ⟨b,0,none⟩)) (fun w'=>by kernel_rfl) ?_
  simp only[pS]
  refine aB rfl (.pointer (some ⟨b,0,none⟩)) (fun w'=>by kernel_rfl) ?_
  simp only[pS]
  refine aB rfl (.pointer (some ⟨b,0,none⟩)) (fun w'=>by kernel_rfl) ?_
  simp only[pS]
  refine aB rfl (.pointer (some ⟨b,0,none⟩)) (fun w'=>by kernel_rfl) ?_
  simp only[pS]
  refine aB rfl (.pointer (some ⟨b,0,none⟩)) (fun w'=>by kernel_rfl) ?_
  simp only[pS]
  refine wqLr rfl 25 _ rfl g rfl _ (Iv .u8 p) _ _ (fun w' hw'=>by obtain⟨m',hx⟩:=hw';exact hx.at (.head _)) underlying25 rfl (aI hpl.out) ?_
  simp only[pS]
  refine aB rfl (.slice (some ⟨tg,to_,none⟩) (n+16) tc) (fun w'=>by kernel_rfl) ?_
  simp only[pS]
  refine wqN ?_
  refine wTt ?_
  simp only[oS]
  go_wp2_with fail
  refine(wE c h p (.int .i64 v::G') HC.out H32.out hpl.out HCB.out hpb.out b hb3 t y6 S6.out.here (S6.out.tabs HT.out hb3)).mono ?_
  rintro e y7 ⟨rfl,hT⟩
  have S7:Hid _:=S6.out.turn hT
  go_wp2_with fail
  refine⟨⟨_,S7.out⟩,?_⟩
  refine wTt ?_
  simp only[oS]
  go_wp2_with fail
  refine(acX (sfC c p) h (PG c p) box (.int .i64 v::G') (GK _ _) H32.out (aY _ _) HHB.out (fM _ _) HXB.out n HN.out HTC.out.2.2.1 HTC.out.2.2.2 tg to_ tc HTC.out.1 HTC.out.2.1 b hb3 t y7 S7.out.here (S7.out.tabs HT.out hb3) (S7.out.sl HS.out.1 HS.out.2) HS.out.2).mono ?_
  rintro e y8 (⟨hO,rfl,hT⟩|⟨hO,g8,cap,rfl,hg1,hg2,hg3,hS8,hT⟩)
  ·have S8:Hid _:=S7.out.turn hT
   have HO:Hid _:=hO
   clear hT S7 hO
   go_wp2_with fail
   refine⟨⟨_,S8.out⟩,?_⟩
   refine wTh ?_
   simp only[oS]
   refine aB rfl (.tuple #[.slice none 0 0,.bool false]) (fun w'=>by kernel_rfl) ?_
   simp only[pS]
   refine aB rfl (.slice none 0 0) (fun w'=>by kernel_rfl) ?_
   simp only[pS]
   refine aB rfl (.bool false) (fun w'=>by kernel_rfl) ?_
   simp only[pS]
   refine wqN ?_
   refine wTt ?_
   simp only[oS]
   go_wp2_with fail
   refine⟨⟨_,S8.out⟩,?_⟩
   refine wTl ?_
   simp only[oS]
   go_wp2_with fail
   refine aQ ?_
   go_wp2_with fail
   exact bodyPost_ret (v:=.tuple #[.slice none 0 0,jU k]) (by kernel_rfl) rfl (.inl ⟨HO.out,rfl,S8.out.tn⟩)
  ·have S8:Hid _:=S7.out.turn hT
   have G8:Hid (w.heap.size≤g8∧n≤cap∧cap≤9223372036854775807):=⟨by have:=S7.out.tn.size;omega,hg2,hg3⟩
   have X8:Hid (Sl y8 g8 0 (opX (PG c p) box n)):=hS8
   have HO:Hid _:=hO
   go_wp2_with fail
   refine⟨⟨_,S8.out⟩,?_⟩
   refine wTh ?_
   simp only[oS]
   refine aB rfl (.tuple #[.slice (some ⟨g8,0,none⟩) n cap,.bool true]) (fun w'=>by kernel_rfl) ?_
   simp only[pS]
   refine aB rfl (.slice (some ⟨g8,0,none⟩) n cap) (fun w'=>by kernel_rfl) ?_
   simp only[pS]
   refine aB rfl (.bool true) (fun w'=>by kernel_rfl) ?_
   simp only[pS]
   refine wqN ?_
   refine wTt ?_
   simp only[oS]
   go_wp2_with fail
   refine⟨⟨_,S8.out⟩,?_⟩
   refine wTl ?_
   simp only[oS]
   go_wp2_with fail
   refine aQ ?_
   go_wp2_with fail
   exact bodyPost_ret (v:=.tuple #[.slice (some ⟨g8,0,none⟩) n cap,.nilIface]) (by kernel_rfl) rfl (.inr ⟨HO.out,g8,cap,rfl,G8.out.1,G8.out.2.1,G8.out.2.2,X8.out,S8.out.tn⟩)
end Go.Proofs.YtmjccemdldidaaaGreatDoor
