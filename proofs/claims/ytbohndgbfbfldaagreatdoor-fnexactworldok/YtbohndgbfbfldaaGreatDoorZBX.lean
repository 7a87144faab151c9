/- Several texts laid together: LawWorldOK, OpenB. -/
import Derived.Test.YtbohndgbfbfldaaGreatDoorWoB
import Derived.Test.YtbohndgbfbfldaaGreatDoorOrdT
import Derived.Deep.DeepCutAuto
import Derived.Deep.RegionHeld3
import Derived.Test.YtbohndgbfbfldaaGreatDoorZAK
import Derived.Test.YtbohndgbfbfldaaGreatDoorZBI
set_option maxRecDepth 100000
set_option maxHeartbeats 16000000
namespace Go.Proofs.YtbohndgbfbfldaaGreatDoor
open Go.RowKit
theorem zfd {P:Program} {o:Oper} {a:Act} {w:World} (ty:TypeId) (x:Operand) (ho:o.op=.load ty x)
  (g:Nat) (hx:a.eval x=.pointer (some ⟨g,0,none⟩)) (t:TypeId) (cs:Array Value) (fr:Nat×Nat) (d:TypeDesc) (hg:w.heap[g]?=some (.cells cs t fr))
  (hu:P.underlying ty=some d) (hd:(match d with | .struct _ | .array _ _=>true | _=>false)=true) (hi:(P.info? ty).map (·.size)=some cs.size):(execOp a.eval o).run P w=.ok (.value (.agg cs)) w:=by
 unfold execOp;simp only[ho,hx,Instr.loadAt,Instr.sureAddr,Sem.run_bind,Sem.run_pure,Result.andThen_ok,run_loadVar_row w g t ty cs fr d hg hu hd hi]
theorem RdWd.form {w:World} {v:Value} {ws:List Int} {ps:List St} {es:List Int} {qs:List Se} {hs:List Int} {td:List Mi} {cd vl:Int} {nm:List ByteArray} {fr:Bool} {ts:List Th} {ds:List Den} {ok:Int} {op ot:ByteArray} {og ox:Int} {az:List Aw} {ag:Bool} (h:RdWd w v ws ps es qs hs td cd vl nm fr ts ds ok op ot og ox az ag):∃ aW cW aP cP aS cS aQ cQ aH cH aT cT aN cN aG cG aD cD aR cR,v=.agg #[.slice aW ws.length cW,.slice aP ps.length cP,.slice aS es.length cS,.slice aQ qs.length cQ,.slice aH hs.length cH,.slice aT td.length cT,.int .i64 cd,.int .i64 vl,.slice aN nm.length cN,.bool fr,.slice aG ts.length cG,.slice aD ds.length cD,.int .i64 ok,.string op,.string ot,.int .i64 og,.int .i64 ox,.slice aR az.length cR,.bool ag]:=by
 obtain ⟨aW,cW,aP,cP,aS,cS,aQ,cQ,aH,cH,aT,cT,aN,cN,aG,cG,aD,cD,aR,cR,e,-,-,-⟩:=h;exact ⟨aW,cW,aP,cP,aS,cS,aQ,cQ,aH,cH,aT,cT,aN,cN,aG,cG,aD,cD,aR,cR,e⟩
theorem zpj (v:Value) (ws:List Int) (ps:List St) (es:List Int) (qs:List Se) (hs:List Int) (td:List Mi) (cd vl:Int) (nm:List ByteArray) (fr:Bool) (ts:List Th) (ds:List Den) (ok:Int) (op ot:ByteArray) (og ox:Int) (az:List Aw) (ag:Bool) (w:World) (h:RdWd w v ws ps es qs hs td cd vl nm fr ts ds ok op ot og ox az ag) (hB:ws.length≤maxLen∧ps.length≤maxLen∧es.length≤maxLen∧qs.length≤maxLen∧hs.length≤maxLen∧td.length≤maxLen∧nm.length≤maxLen) (hz:∀ k (hk:k < nm.length),nm[k].size≤maxLen) (hts:ts.length≤maxLen) (htg:∀ k (hk:k < ts.length),ts[k].pages.length≤maxLen) (hds:ds.length≤maxLen) (hdn:∀ k (h:k < ds.length),ds[k].name.size≤maxLen) (hop:op.size≤maxLen) (hot:ot.size≤maxLen) (haz:az.length≤maxLen) (hap:∀ k (hk:k < az.length),az[k].names.length≤maxLen) (han:∀ k (hk:k < az.length),∀ j (hj:j < az[k].names.length),az[k].names[j].size≤maxLen) (hS:SB w) (hT:TS w) (hE:ED w) (hF:FD w) :
  Calls Tryz.prog 4 #[v] w fun e w'=>e=.returned (.bool true)∧Below w.heap.size w w':=by
 obtain ⟨aW,cW,aP,cP,aS,cS,aQ,cQ,aH,cH,aT,cT,aN,cN,aG,cG,aD,cD,aR,cR,rfl,-,-,-⟩:=id h
 obtain ⟨W,hW⟩:∃ W,W=w.alloc (.cells #[.slice aW ws.length cW,.slice aP ps.length cP,.slice aS es.length cS,.slice aQ qs.length cQ,.slice aH hs.length cH,.slice aT td.length cT,.int .i64 cd,.int .i64 vl,.slice aN nm.length cN,.bool fr,.slice aG ts.length cG,.slice aD ds.length cD,.int .i64 ok,.string op,.string ot,.int .i64 og,.int .i64 ox,.slice aR az.length cR,.bool ag] 69):=⟨_,rfl⟩
 have BW:Hid (Below w.heap.size w W):=by rw[hW];exact (Below.refl _ _).alloc (Nat.le_refl _) _
 have VA_0:Hid (W.heap[w.heap.size]?=some (.cells #[.slice aW ws.length cW,.slice aP ps.length cP,.slice aS es.length cS,.slice aQ qs.length cQ,.slice aH hs.length cH,.slice aT td.length cT,.int .i64 cd,.int .i64 vl,.slice aN nm.length cN,.bool fr,.slice aG ts.length cG,.slice aD ds.length cD,.int .i64 ok,.string op,.string ot,.int .i64 og,.int .i64 ox,.slice aR az.length cR,.bool ag] 69 (0,0))):=by rw[hW];exact zah rfl
 have ltA:w.heap.size < W.heap.size:=zay VA_0.o;have B_0:Hid (Below W.heap.size W W):=Below.refl _ _
 have RDA:Hid (∀ w',Below W.heap.size W w'→RdWd w' (.agg #[.slice aW ws.length cW,.slice aP ps.length cP,.slice aS es.length cS,.slice aQ qs.length cQ,.slice aH hs.length cH,.slice aT td.length cT,.int .i64 cd,.int .i64 vl,.slice aN nm.length cN,.bool fr,.slice aG ts.length cG,.slice aD ds.length cD,.int .i64 ok,.string op,.string ot,.int .i64 og,.int .i64 ox,.slice aR az.length cR,.bool ag]) ws ps es qs hs td cd vl nm fr ts ds ok op ot og ox az ag):=fun w' hb=>RdWd.below h (zab BW.o hb BW.o.size)
 have FB:Hid (∀ w',Below W.heap.size W w'→Below w.heap.size w w'):=fun w' hb=>zab BW.o hb BW.o.size
 have SZ:Hid (∀ w1,Below W.heap.size W w1→Calls Tryz.prog 10 #[.agg #[.slice aW ws.length cW,.slice aP ps.length cP,.slice aS es.length cS,.slice aQ qs.length cQ,.slice aH hs.length cH,.slice aT td.length cT,.int .i64 cd,.int .i64 vl,.slice aN nm.length cN,.bool fr,.slice aG ts.length cG,.slice aD ds.length cD,.int .i64 ok,.string op,.string ot,.int .i64 og,.int .i64 ox,.slice aR az.length cR,.bool ag],.int .i64 1048576] w1 fun e w'=>∃ r:Int,e=.returned (.int .i64 r)∧(0≤r→(ws.length≤1048576∧ps.length≤1048576∧es.length≤1048576∧qs.length≤1048576∧hs.length≤1048576∧td.length≤1048576∧nm.length≤1048576)∧(ts.length+zez ts≤1048576∧ds.length≤1048576)∧(az.length≤1048576∧∀ k (hk:k < az.length),az[k].names.length≤1048576))∧-1≤r∧Below w1.heap.size w1 w'):=fun w1 hb=>zpo _ ws ps es qs hs td cd vl nm fr ts ds ok op ot og ox az ag w1 (RDA.o w1 hb) hB.1 hB.2.1 hB.2.2.1 hB.2.2.2.1 hB.2.2.2.2.1 hB.2.2.2.2.2.1 hB.2.2.2.2.2.2 hz hts htg hds hdn hop hot haz hap han
 have HDN:=zaa hdn;clear hB hz hts htg hds hdn hop hot haz hap han;go_enter Tryz.func4,Tryz.ntmps4;go_upto_region 2 with fail;rw[← hW];clear hW;go_wp2_with (refine wpList_load_row rfl 69 (.tmp 1) rfl w.heap.size rfl 69 _ (0,0) _ VA_0.o Tryz.underlying69 rfl znj ?_);refine (SZ.o W B_0.o).mono ?_;rintro e w1 ⟨r,rfl,hr,hr1,hb⟩;have z1:W.heap.size≤w1.heap.size:=hb.size;have B_1:=zaa (zab B_0.o hb B_0.o.size);have VA_1:=zaa (zag VA_0.o hb (zay VA_0.o));clear B_0 VA_0 hb
 by_cases cr:r < 0
 ·clear hS hT hE hF SZ RDA HDN ;go_wp2;go_ret;exact ⟨rfl,FB.o _ B_1.o⟩
 obtain ⟨⟨hws,hps,hes,hqs,hhs,htd,hnm⟩,⟨htt,hds⟩,haz,hap⟩:=hr (by omega);clear SZ hr hr1
 have hts:ts.length≤1048576:=by omega
 have HTG:Hid (∀ k (hk:k < ts.length),ts[k].pages.length≤1048576):=fun k hk=>by have:=yacp hk;omega
 have HAP:=zaa hap;clear hap htt;have SC:=zaa (fun v1 w1 (h1:RdWd w1 v1 ws ps es qs hs td cd vl nm fr ts ds ok op ot og ox az ag)=>zht v1 ws ps es qs hs td cd vl nm fr ts ds ok op ot og ox az ag w1 h1 hws hps hes hqs hhs htd hnm hts hds HDN.o);have IC:=zaa (fun v1 w1 (hb:Below w.heap.size w w1) (h1:RdWd w1 v1 ws ps es qs hs td cd vl nm fr ts ds ok op ot og ox az ag)=>zin v1 ws ps es qs hs td cd vl nm fr ts ds ok op ot og ox az ag w1 h1 hws hps hes hqs hhs htd hnm hts hds HDN.o (hS.below hb) (hT.below hb) (hE.below hb) (hF.below hb))
 have HTQ:Hid (∀ k (hk:k < ts.length),ts[k].pages.length≤2147483648):=fun k hk=>Nat.le_trans (HTG.o k hk) (by decide)
 have HAQ:Hid (∀ k (hk:k < az.length),az[k].names.length≤2147483648):=fun k hk=>Nat.le_trans (HAP.o k hk) (by decide)
 generalize zya ws ps es qs hs td cd vl nm fr ts ds ok op ot og ox az=fb at *;clear hS hT hE hF HDN;go_wp2_with (refine wpList_load_row rfl 69 (.tmp 1) rfl w.heap.size rfl 69 _ (0,0) _ VA_1.o Tryz.underlying69 rfl znj ?_);refine (zeu _ ws ps es qs hs td cd vl nm fr ts ds ok op ot og ox az ag w1 (RDA.o w1 B_1.o) hws hps hes hqs hhs htd hnm hts HTG.o hds haz HAP.o).mono ?_;rintro e w2 ⟨v2,rfl,hr,hb⟩;have hq:=hr.form;obtain ⟨SaW,ScW,SaP,ScP,SaS,ScS,SaQ,ScQ,SaH,ScH,SaT,ScT,SaN,ScN,SaG,ScG,SaD,ScD,SaR,ScR,eq⟩:=hq;subst eq;have z2:w1.heap.size≤w2.heap.size:=hb.size;have B_2:=zaa (zab B_1.o hb B_1.o.size);have VA_2:=zaa (zag VA_1.o hb (zay VA_1.o));clear B_1 VA_1 hb;have RS_2:Hid (RdWd w2 _ ws ps es qs hs td cd vl nm fr ts ds ok op ot og ox az ag):=hr;clear hr;go_wp2_with fail;refine (SC.o _ w2 RS_2.o).mono ?_;rintro e w3 ⟨rfl,hb⟩;have z3:w2.heap.size≤w3.heap.size:=hb.size;have B_3:=zaa (zab B_2.o hb B_2.o.size);have VA_3:=zaa (zag VA_2.o hb (zay VA_2.o));have RS_3:=zaa (RS_2.o.below hb);clear B_2 VA_2 RS_2 hb;clear SC RS_3;go_wp2_with (refine wpList_load_row rfl 69 (.tmp 1) rfl w.heap.size rfl 69 _ (0,0) _ VA_3.o Tryz.underlying69 rfl znj ?_);refine (zeu _ ws ps es qs hs td cd vl nm fr ts ds ok op ot og ox az ag w3 (RDA.o w3 B_3.o) hws hps hes hqs hhs htd hnm hts HTG.o hds haz HAP.o).mono ?_;rintro e w4 ⟨v4,rfl,hr,hb⟩;have hq:=hr.form;obtain ⟨XaW,XcW,XaP,XcP,XaS,XcS,XaQ,XcQ,XaH,XcH,XaT,XcT,XaN,XcN,XaG,XcG,XaD,XcD,XaR,XcR,eq⟩:=hq;subst eq;have z4:w3.heap.size≤w4.heap.size:=hb.size;have B_4:=zaa (zab B_3.o hb B_3.o.size);have VA_4:=zaa (zag VA_3.o hb (zay VA_3.o));clear B_3 VA_3 hb;have RX_4:Hid (RdWd w4 _ ws ps es qs hs td cd vl nm fr ts ds ok op ot og ox az ag):=hr;clear hr
 obtain ⟨w5,hw5⟩:∃ w5,w5=(w4.alloc (.cells #[.slice none 0 0,.slice none 0 0,.slice none 0 0,.slice none 0 0,.slice none 0 0,.slice none 0 0,.int .i64 0,.int .i64 0,.slice none 0 0,.bool false,.slice none 0 0,.slice none 0 0,.int .i64 0,.string ⟨#[]⟩,.string ⟨#[]⟩,.int .i64 0,.int .i64 0,.slice none 0 0,.bool false] 45)).setRow w4.heap.size #[.slice XaW ws.length XcW,.slice XaP ps.length XcP,.slice XaS es.length XcS,.slice XaQ qs.length XcQ,.slice XaH hs.length XcH,.slice XaT td.length XcT,.int .i64 cd,.int .i64 vl,.slice XaN nm.length XcN,.bool fr,.slice XaG ts.length XcG,.slice XaD ds.length XcD,.int .i64 ok,.string op,.string ot,.int .i64 og,.int .i64 ox,.slice XaR az.length XcR,.bool ag]:=⟨_,rfl⟩
 have hb:Below w4.heap.size w4 w5:=by rw[hw5];exact ((Below.refl _ _).alloc (Nat.le_refl _) _).trans ((zei _ _ _).below (Nat.le_refl _) (by simp))
 obtain ⟨bX,hbX⟩:∃ bX:Nat,bX=w4.heap.size:=⟨_,rfl⟩
 have VX_5:Hid (w5.heap[bX]?=some (.cells #[.slice XaW ws.length XcW,.slice XaP ps.length XcP,.slice XaS es.length XcS,.slice XaQ qs.length XcQ,.slice XaH hs.length XcH,.slice XaT td.length XcT,.int .i64 cd,.int .i64 vl,.slice XaN nm.length XcN,.bool fr,.slice XaG ts.length XcG,.slice XaD ds.length XcD,.int .i64 ok,.string op,.string ot,.int .i64 og,.int .i64 ox,.slice XaR az.length XcR,.bool ag] 45 (0,0))):=by rw[hw5,hbX];exact setRow_heap _ _ _ _ _ _ (zah rfl)
 have pX:w4.heap.size≤bX∧bX≤w4.heap.size∧bX < w5.heap.size:=⟨Nat.le_of_eq hbX.symm,Nat.le_of_eq hbX,zay VX_5.o⟩
 have z5:w4.heap.size≤w5.heap.size:=hb.size;have B_5:=zaa (zab B_4.o hb B_4.o.size);have VA_5:=zaa (zag VA_4.o hb (zay VA_4.o));have RX_5:=zaa (RX_4.o.below hb);clear B_4 VA_4 RX_4 hb;go_upto_region 7 with (refine wpList_store_row rfl 45 (.tmp 5) (.tmp 16) rfl _ #[.slice XaW ws.length XcW,.slice XaP ps.length XcP,.slice XaS es.length XcS,.slice XaQ qs.length XcQ,.slice XaH hs.length XcH,.slice XaT td.length XcT,.int .i64 cd,.int .i64 vl,.slice XaN nm.length XcN,.bool fr,.slice XaG ts.length XcG,.slice XaD ds.length XcD,.int .i64 ok,.string op,.string ot,.int .i64 og,.int .i64 ox,.slice XaR az.length XcR,.bool ag] rfl rfl 45 _ (zah rfl) zgh rfl (by simp[Value.oneCell']) ?_);rw[← hw5,← hbX];clear hw5 hbX;go_wp2_with (refine wpList_load_row rfl 45 (.tmp 5) rfl bX rfl 45 _ (0,0) _ VX_5.o Tryz.underlying45 rfl zgh ?_);refine (IC.o _ w5 (FB.o w5 B_5.o) RX_5.o).mono ?_;rintro e w6 ⟨rfl,hb⟩;have z6:w5.heap.size≤w6.heap.size:=hb.size;have B_6:=zaa (zab B_5.o hb B_5.o.size);have VA_6:=zaa (zag VA_5.o hb (zay VA_5.o));have VX_6:=zaa (zag VX_5.o hb (zay VX_5.o));have RX_6:=zaa (RX_5.o.below hb);clear B_5 VA_5 VX_5 RX_5 hb;clear IC
 have SK:Hid (∀ w',Below w6.heap.size w6 w'→w'.heap[bX]?=some (.cells #[.slice XaW ws.length XcW,.slice XaP ps.length XcP,.slice XaS es.length XcS,.slice XaQ qs.length XcQ,.slice XaH hs.length XcH,.slice XaT td.length XcT,.int .i64 cd,.int .i64 vl,.slice XaN nm.length XcN,.bool fr,.slice XaG ts.length XcG,.slice XaD ds.length XcD,.int .i64 ok,.string op,.string ot,.int .i64 og,.int .i64 ox,.slice XaR az.length XcR,.bool ag] 45 (0,0))∧w'.heap[w.heap.size]?=some (.cells #[.slice aW ws.length cW,.slice aP ps.length cP,.slice aS es.length cS,.slice aQ qs.length cQ,.slice aH hs.length cH,.slice aT td.length cT,.int .i64 cd,.int .i64 vl,.slice aN nm.length cN,.bool fr,.slice aG ts.length cG,.slice aD ds.length cD,.int .i64 ok,.string op,.string ot,.int .i64 og,.int .i64 ox,.slice aR az.length cR,.bool ag] 69 (0,0))):=fun w' hb=>⟨zag VX_6.o hb (zay VX_6.o),zag VA_6.o hb (zay VA_6.o)⟩
 go_upto_region 10 with fail
 go_cut [26] (fun s wx=>s=.bool false∧Hid (Below w6.heap.size w6 wx))
 case first =>
  as_aux_lemma =>
   refine zpk 4 (fun w'=>w'.heap[bX]?=some (.cells #[.slice XaW ws.length XcW,.slice XaP ps.length XcP,.slice XaS es.length XcS,.slice XaQ qs.length XcQ,.slice XaH hs.length XcH,.slice XaT td.length XcT,.int .i64 cd,.int .i64 vl,.slice XaN nm.length XcN,.bool fr,.slice XaG ts.length XcG,.slice XaD ds.length XcD,.int .i64 ok,.string op,.string ot,.int .i64 og,.int .i64 ox,.slice XaR az.length XcR,.bool ag] 45 (0,0))∧w'.heap[w.heap.size]?=some (.cells #[.slice aW ws.length cW,.slice aP ps.length cP,.slice aS es.length cS,.slice aQ qs.length cQ,.slice aH hs.length cH,.slice aT td.length cT,.int .i64 cd,.int .i64 vl,.slice aN nm.length cN,.bool fr,.slice aG ts.length cG,.slice aD ds.length cD,.int .i64 ok,.string op,.string ot,.int .i64 og,.int .i64 ox,.slice aR az.length cR,.bool ag] 69 (0,0))) (by kernel_rfl) (SK.o _ (Below.drew (Below.refl _ _))) (fun hS=>?_);refine zih (i:=0) (v:=.agg #[.slice XaW ws.length XcW,.slice XaP ps.length XcP,.slice XaS es.length XcS,.slice XaQ qs.length XcQ,.slice XaH hs.length XcH,.slice XaT td.length XcT,.int .i64 cd,.int .i64 vl,.slice XaN nm.length XcN,.bool fr,.slice XaG ts.length XcG,.slice XaD ds.length XcD,.int .i64 ok,.string op,.string ot,.int .i64 og,.int .i64 ox,.slice XaR az.length XcR,.bool ag]) [3,0] rfl (by kernel_rfl) (fun _ _ _ h=>h) hS rfl (fun w' hSw=>zfd 45 (.tmp 5) rfl bX rfl 45 _ (0,0) _ hSw.1 Tryz.underlying45 rfl zgh) ?_
   try simp only[Act.put]
   refine zih (i:=1) (v:=.agg #[.slice aW ws.length cW,.slice aP ps.length cP,.slice aS es.length cS,.slice aQ qs.length cQ,.slice aH hs.length cH,.slice aT td.length cT,.int .i64 cd,.int .i64 vl,.slice aN nm.length cN,.bool fr,.slice aG ts.length cG,.slice aD ds.length cD,.int .i64 ok,.string op,.string ot,.int .i64 og,.int .i64 ox,.slice aR az.length cR,.bool ag]) [3,2,1] rfl (by kernel_rfl) (fun _ _ _ h=>h) hS rfl (fun w' hSw=>zfd 69 (.tmp 1) rfl w.heap.size rfl 69 _ (0,0) _ hSw.2 Tryz.underlying69 rfl znj) ?_
   try simp only[Act.put]
   clear hS;refine zgf (i:=2) rfl (by kernel_rfl) (fun K hK=>?_);go_simp;go_at_call 12;refine (zeu _ ws ps es qs hs td cd vl nm fr ts ds ok op ot og ox az ag _ (RDA.o _ (zab B_6.o (Below.drew (Below.refl _ _)) B_6.o.size)) hws hps hes hqs hhs htd hnm hts HTG.o hds haz HAP.o).mono ?_;rintro e wt ⟨vt,rfl,hrt,hbt⟩;have BF:Hid (Below w6.heap.size w6 wt):=zel (Below.drew (Below.refl _ _)) hbt;obtain ⟨taW,tcW,taP,tcP,taS,tcS,taQ,tcQ,taH,tcH,taT,tcT,taN,tcN,taG,tcG,taD,tcD,taR,tcR,rfl⟩:=hrt.form;have RT:=zaa hrt;clear hrt hbt;refine hK.o _ _ (fun _=>SK.o wt BF.o) ?_;clear hK K
   try simp only[Act.put]
   refine zgf (i:=3) rfl (by kernel_rfl) (fun K hK=>?_);go_simp;go_at_call 7;refine (zns _ _ ws ps es qs hs td cd vl nm fr ts ds ok op ot og ox az ag wt (RX_6.o.below BF.o) RT.o (by omega) (by omega) (by omega) (by omega) (by omega) (by omega) (by omega) (by omega) HTQ.o (by omega) (by omega) HAQ.o).mono ?_;rintro e wu ⟨rfl,hbu⟩;have BE:Hid (Below w6.heap.size w6 wu):=zel BF.o hbu;clear hbu;refine hK.o _ _ (fun _=>SK.o wu BE.o) ?_;clear hK K
   try simp only[Act.put]
   refine zgf (i:=4) rfl (by kernel_rfl) (fun K hK=>?_);go_simp;refine hK.o _ _ (fun h=>absurd rfl h) ?_;clear hK K
   try simp only[Act.put]
   refine zox (by kernel_rfl) ?_ _;go_wp2_with fail
   go_meet
   exact ⟨rfl,BE.o⟩
 case rest =>
 obtain ⟨rfl,hbH⟩:=hcut
 rename World=>w7
 clear SK;have hb:=hbH.o;clear hbH;have z7:w6.heap.size≤w7.heap.size:=hb.size;have B_7:=zaa (zab B_6.o hb B_6.o.size);have VA_7:=zaa (zag VA_6.o hb (zay VA_6.o));have VX_7:=zaa (zag VX_6.o hb (zay VX_6.o));have RX_7:=zaa (RX_6.o.below hb);clear B_6 VA_6 VX_6 RX_6 hb;go_wp2;go_ret;exact ⟨rfl,FB.o _ B_7.o⟩
end Go.Proofs.YtbohndgbfbfldaaGreatDoor

namespace Go.Proofs.YtbohndgbfbfldaaGreatDoor
open Go.ChangeShapes Go.WideShapes Go.ChangeAt Go.RowKit Go.Joins
theorem zyt:Tryz.prog.cellsOf 252=2:=by kernel_rfl
theorem zyi:Tryz.prog.cellsOf 55=2:=by kernel_rfl
section
variable {H:Type} {enc:TypeId×Value→H} {W:World} {sp:Nat→Bool} {held:Bool} {fuel:Nat} {v:Value} {y:DataW H×List MemPlace}
theorem zzf (h:DataW.trod enc Tryz.prog W 0 sp held fuel 53 [v]=some y):∃ ps:List Se,RdE W v ps∧ps.length≤maxLen∧∀ p∈ps,(Lit.int .i64 p.at_).wf=true∧(Lit.int .i64 p.val).wf=true:=by
 rcases Deep.open_slice Tryz.underlying53 h with ⟨hcs,_⟩ | ⟨a,len,cap,m,n,D,Pl,hcs,_,hl,hm,hmm,_,hel⟩
 ·simp only[List.cons.injEq,and_true] at hcs;subst hcs;exact ⟨[],⟨rfl,none,0,rfl,⟨Nat.le_refl _,fun _=>rfl⟩,fun h=>absurd h (by simp)⟩,by simp,fun p hp=>by simp at hp⟩
 ·simp only[List.cons.injEq,and_true] at hcs;subst hcs
  have hlm:len≤m:=by rw[hmm];split <;> omega
  have one:∀ i,i < len→∃ s:Se,(W.cell? ((a.add (i*2)).add 0)=some (.int .i64 s.at_)∧W.cell? ((a.add (i*2)).add 1)=some (.int .i64 s.val) )∧(Lit.int .i64 s.at_).wf=true∧(Lit.int .i64 s.val).wf=true:=by
   intro i hi;obtain ⟨cs,hcs,ht⟩:=hel i (by omega);rw[zyt] at hcs;obtain ⟨_,hlen,hc⟩:=World.cells?_some hcs;obtain ⟨y0,y1,n',_,_,t0,t1⟩:=ChangeShapes.trod_struct2 Tryz.underlying252 ht;obtain ⟨z0,e0,_,w0⟩:=DataW.trod_int Tryz.underlying3 t0;obtain ⟨z1,e1,_,w1⟩:=DataW.trod_int Tryz.underlying3 t1;simp only[zdp] at e0 e1
   match cs,hlen with
   | [c0,c1],_ =>
    simp at e0 e1;subst e0 e1;exact ⟨⟨z0,z1⟩,⟨by simpa using hc 0 (by omega),by simpa using hc 1 (by omega)⟩,w0,w1⟩
  obtain ⟨ps,hpl,hps⟩:=zbl len one;refine ⟨ps,⟨zvt ps,some a,cap,by rw[hpl],⟨by rw[hpl];exact hl,fun e=>by cases e⟩,fun hn=>?_⟩,by rw[hpl];omega,fun p hp=>?_⟩
  ·obtain ⟨b,off,spot⟩:=a;have hc:=(hps 0 hn).1.1
   have hspot:spot=none:=by simpa[Addr.add] using World.cell?_spot hc
   subst hspot;refine ⟨b,off,rfl,World.block_lt_of_cell? W _ (by simpa[Addr.add] using hc),fun j hj=>?_⟩
   have hk:j / 2 < ps.length:=by omega
   obtain ⟨⟨q0,q1⟩,_⟩:=hps (j / 2) hk;simp only[Addr.add_lit,Nat.add_zero] at q0 q1
   have hj3:j=j / 2*2+j % 2:=by omega
   rcases (show j % 2=0∨j % 2=1 from by omega) with r | r
   ·rw[hj3,r,Nat.add_zero,q0,zot ps _ hk]
   ·rw[hj3,r,← Nat.add_assoc,q1,zow ps _ hk]
  ·obtain ⟨i,hi,rfl⟩:=List.getElem_of_mem hp;exact (hps i hi).2
end
end Go.Proofs.YtbohndgbfbfldaaGreatDoor
