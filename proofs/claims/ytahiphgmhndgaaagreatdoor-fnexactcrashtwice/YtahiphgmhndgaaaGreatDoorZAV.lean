/- Several texts laid together: CrashS, OpenA, Open, PmFlushI. -/
import Derived.Test.YtahiphgmhndgaaaGreatDoorZAU
import Derived.Test.YtahiphgmhndgaaaGreatDoorZAE
import Derived.BigRegion
import Derived.Test.YtahiphgmhndgaaaGreatDoorZAA
import Derived.ProofKit
import Derived.OpenShut
import Derived.ShutString
import Derived.ChangeOld
import Derived.Lib.SmallJoins
import Derived.Deep.Slices
import Derived.Deep.Strs
import Derived.Test.YtahiphgmhndgaaaGreatDoorZAB
import Derived.Test.YtahiphgmhndgaaaGreatDoorZAF
set_option maxRecDepth 100000
set_option maxHeartbeats 8000000
namespace Go.Proofs.YtahiphgmhndgaaaGreatDoor
open Go.RowKit
structure CrInv (w wr:World) (n:Nat) (X:List Int) (ps:List St) (us:List Int) (lo hi hi2:Nat) (vW vP vU:Value):Prop where
 words:Row wr 3 1 lo hi vW n (zav X)
 pend:Row wr 147 3 lo hi vP ps.length (sts ps)
 plc:Row wr 3 1 hi hi2 vU us.length (zav us)
 box:wr.heap[w.heap.size]?=some (.cells #[vW,vP] 40 (0,0))
 res:wr.heap[w.heap.size+1]?=some (.cells #[.slice none 0 0,.slice none 0 0] 40 (0,0))
 below:Below w.heap.size w wr
 size:hi2≤wr.heap.size
theorem CrInv.drewN {w wr:World} {n:Nat} {X:List Int} {ps:List St} {us:List Int} {lo hi hi2:Nat} {vW vP vU:Value} (h:CrInv w wr n X ps us lo hi hi2 vW vP vU) (m:Nat):CrInv w (wr.drewN m) n X ps us lo hi hi2 vW vP vU:=by
 obtain ⟨h1,h2,h3,h4,h5,h6,h7⟩:=h;exact ⟨h1.same (fun _ _ _=>rfl),h2.same (fun _ _ _=>rfl),h3.same (fun _ _ _=>rfl),h4,h5,below_drewN h6 m,h7⟩
theorem CrInv.drew {w wr:World} {n:Nat} {X:List Int} {ps:List St} {us:List Int} {lo hi hi2:Nat} {vW vP vU:Value} (h:CrInv w wr n X ps us lo hi hi2 vW vP vU):CrInv w wr.drew n X ps us lo hi hi2 vW vP vU:=by
 obtain ⟨h1,h2,h3,h4,h5,h6,h7⟩:=h;exact ⟨h1.same (fun _ _ _=>rfl),h2.same (fun _ _ _=>rfl),h3.same (fun _ _ _=>rfl),h4,h5,h6.drew,h7⟩
theorem CrInv.store {w wr:World} {n:Nat} {X:List Int} {ps:List St} {us:List Int} {lo hi hi2:Nat} {b cap:Nat} {vP vU:Value} (h:CrInv w wr n X ps us lo hi hi2 (.slice (some ⟨b,0,none⟩) n cap) vP vU) (hlo:w.heap.size+2≤lo) (a:Nat) (x:Int) :
  CrInv w (wr.setCell ⟨b,a,none⟩ (.int .i64 x)) n (X.set a x) ps us lo hi hi2 (.slice (some ⟨b,0,none⟩) n cap) vP vU:=by
 obtain ⟨h1,h2,h3,h4,h5,h6,h7⟩:=h
 obtain ⟨_,hb1,hb2,_⟩:=h1.at
 refine ⟨?_,h2.apart h1 (by decide) (World.ownsRow.stored h1.1 _ _).2,h3.same (fun k hk _=>Below.heap_setCell _ _ _ _ (by simp only;omega)),?_,?_,h6.setCell (by simp only;omega) _,by simp;omega⟩
 ·rw[← zeo];exact h1.stored _ _
 ·rw[Below.heap_setCell _ _ _ _ (by simp only;omega)];exact h4
 ·rw[Below.heap_setCell _ _ _ _ (by simp only;omega)];exact h5
def zzp (us:List Nat) (zs:List Int) (ps:List St) (ws:List Int) (i n:Nat):List Int :=
 (spW us zs ps ws i).set (us[i]?.getD 0) (zed (us[i]?.getD 0) ((spW us zs ps ws i)[us[i]?.getD 0]?.getD 0,zck zs i) (ps.take n)).1
def zoh (us:List Nat) (zs:List Int) (ps:List St) (ws:List Int) (i n:Nat):Int :=
 (zed (us[i]?.getD 0) ((spW us zs ps ws i)[us[i]?.getD 0]?.getD 0,zck zs i) (ps.take n)).2
theorem zzb (us:List Nat) (zs:List Int) (ps:List St) (ws:List Int) (i:Nat) (h:us[i]?.getD 0 < ws.length):zzp us zs ps ws i 0=spW us zs ps ws i:=by
 unfold zzp
 have hl:us[i]?.getD 0 < (spW us zs ps ws i).length:=by rw[zhp];exact h
 rw[List.take_zero,yaij];simp[hl]
theorem zvz (us:List Nat) (zs:List Int) (ps:List St) (ws:List Int) (i:Nat):zoh us zs ps ws i 0=zck zs i:=rfl
theorem yalg {a:Nat} {s:Int×Int} {ps:List St} {n:Nat} (h:¬ 0 < (zed a s (ps.take n)).2):zed a s ps=zed a s (ps.take n):=by
 have e:zed a s (ps.take n ++ ps.drop n)=zed a s (ps.take n):=by rw[zwp,zim h]
 rw[List.take_append_drop] at e;exact e
theorem zoc {us:List Nat} {zs:List Int} {ps:List St} {ws:List Int} {i n:Nat} (_hn:n≤ps.length) (h:n=ps.length∨¬ 0 < zoh us zs ps ws i n):zzp us zs ps ws i n=spW us zs ps ws (i+1):=by
 unfold zzp;rw[spW]
 congr 2
 rcases h with h | h
 ·rw[h,List.take_length]
 ·exact (yalg h).symm
theorem yaiy {us:List Nat} {zs:List Int} {ps:List St} {ws:List Int} {i n:Nat} (hn:n < ps.length) (hk:0 < zoh us zs ps ws i n) (h:ps[n].at_=((us[i]?.getD 0:Nat):Int)) :
  zzp us zs ps ws i (n+1)=(zzp us zs ps ws i n).set (us[i]?.getD 0) ps[n].val∧zoh us zs ps ws i (n+1)=zoh us zs ps ws i n - 1:=by
 unfold zzp zoh at *;rw[zbd ps n hn,zsq];unfold zhf;rw[if_pos ⟨h,hk⟩];exact ⟨by rw[List.set_set],rfl⟩
theorem yacs {us:List Nat} {zs:List Int} {ps:List St} {ws:List Int} {i n:Nat} (hn:n < ps.length) (h:¬ ps[n].at_=((us[i]?.getD 0:Nat):Int)) :
  zzp us zs ps ws i (n+1)=zzp us zs ps ws i n∧zoh us zs ps ws i (n+1)=zoh us zs ps ws i n:=by
 unfold zzp zoh;rw[zbd ps n hn,zsq];unfold zhf;rw[if_neg (fun x=>h x.1)];exact ⟨rfl,rfl⟩
theorem yaed (us:List Nat) (zs:List Int) (ps:List St) (ws:List Int) (i n:Nat):(zzp us zs ps ws i n).length=ws.length:=by unfold zzp;rw[List.length_set,zhp]
theorem yala {us:List Nat} {zs:List Int} {ps:List St} {ws:List Int} {i n:Nat} (h:0≤zck zs i∧zck zs i≤400):0≤zoh us zs ps ws i n∧zoh us zs ps ws i n≤400:=by
 have:=zhk (a:=us[i]?.getD 0) (ps.take n) ((spW us zs ps ws i)[us[i]?.getD 0]?.getD 0,zck zs i) h.1;unfold zoh;simp only at this;omega
theorem zwq (v vZ:Value) (ws:List Int) (ps:List St) (zs:List Int) (w:World) (h:RdPm w v ws ps) (hz:RdI w vZ zs) (hw:ws.length≤1048576) (hp:ps.length≤1048576) (hzl:zs.length≤1048576) (hok:pmB ws ps=true) (hks:zaw zs=true) :
  Calls Tryz.prog 66 #[v,vZ] w fun e w'=>∃ v',e=.returned v'∧RowPm w' w.heap.size w'.heap.size v' (spW (zbg ps 336) zs ps ws (zbg ps 336).length) []∧Below w.heap.size w w':=by
 have HR:=zaa h;obtain ⟨vW,vP,rfl,h1,h2⟩:=h;obtain ⟨aW,cW,rfl,_⟩:=h1.shape;obtain ⟨aP,cP,rfl,_⟩:=h2.shape;obtain ⟨aZ,cZ,rfl,_,hcZ⟩:=hz.shape;have HZ:=zaa hcZ;have KB:=zaa (zoa hks);have L336:=zaa (zbz hok).1;clear h1 h2 hz hcZ hok hks
 have hb0:Below w.heap.size w ((w.alloc (.cells #[.slice aW ws.length cW,.slice aP ps.length cP] 40)).alloc (.cells #[.slice none 0 0,.slice none 0 0] 40)):=by
  repeat (refine Below.alloc ?_ (by simp <;> omega) _)
  exact Below.refl _ _
 go_enter Tryz.func66,Tryz.ntmps66;go_wp2_with fail;refine (zma _ ws ps _ (HR.o.below hb0) (by omega) (by omega)).mono ?_;rintro e w2 ⟨v2,rfl,hr2,hb2⟩;obtain ⟨vW2,vP2,rfl,hI2,hS2⟩:=hr2;obtain ⟨aW2,cW2,rfl⟩:=RdI.form hI2.rd rfl;obtain ⟨aP2,cP2,rfl⟩:=RdS.form hS2.rd rfl;simp only[World.size_alloc] at hI2 hS2
 have hz2:w.heap.size+2≤w2.heap.size:=by have:=hb2.size;simp at this;omega
 have V0:=(hb2.block w.heap.size (by simp <;> omega)).trans (zal (zag rfl));have V1:=(hb2.block (w.heap.size+1) (by simp)).trans (zag (by simp));have B2:=zab hb0 hb2 (by simp <;> omega);obtain ⟨x1,x2,x3,x4⟩:=zad V0
 have KEEP:∀ b,w.heap.size+2≤b→((w2.setCell ⟨w.heap.size,0,none⟩ (.slice aW2 ws.length cW2)).setCell ⟨w.heap.size,1,none⟩ (.slice aP2 ps.length cP2)).heap[b]?=w2.heap[b]?:=fun b hb=>by
  rw[Below.heap_setCell _ _ _ _ (by simp only;omega),Below.heap_setCell _ _ _ _ (by simp only;omega)]
 have RW:=zaa (hI2.same (fun b hb1 _=>KEEP b (by omega)));have RP:=zaa (hS2.same (fun b hb1 _=>KEEP b (by omega)));have VB:=zaa (zga (zep V0 (.slice aW2 ws.length cW2)) (.slice aP2 ps.length cP2))
 have VR:Hid (((w2.setCell ⟨w.heap.size,0,none⟩ (.slice aW2 ws.length cW2)).setCell ⟨w.heap.size,1,none⟩ (.slice aP2 ps.length cP2)).heap[w.heap.size+1]?=some (.cells #[.slice none 0 0,.slice none 0 0] 40 (0,0))):=by
  show _=_
  rw[Below.heap_setCell _ _ _ _ (by simp only;omega),Below.heap_setCell _ _ _ _ (by simp only;omega)];exact V1
 have BB:=zaa ((B2.setCell (p:=⟨w.heap.size,0,none⟩) (by simp only;omega) (.slice aW2 ws.length cW2)).setCell (p:=⟨w.heap.size,1,none⟩) (by simp only;omega) (.slice aP2 ps.length cP2));obtain ⟨y1,y2,y3,y4⟩:=zad VB.o;clear hb0 hb2 hI2 hS2 V0 V1 B2 KEEP;go_wp2_with fail;refine (zvo _ ws ps _ ⟨_,_,rfl,RW.o.rd,RP.o.rd⟩ hp).mono ?_;rintro e w3 ⟨v3,rfl,hr3,hb3⟩;obtain ⟨aU,cU,rfl⟩:=RdI.form hr3.rd (n:=(zbg ps 336).length) (zdy ps 336)
 have hz3:w2.heap.size≤w3.heap.size:=by have:=hb3.size;simpa using this
 have hr3':Row w3 3 1 w2.heap.size w3.heap.size (.slice aU (zbg ps 336).length cU) (zhg ps 336).length (zav (zhg ps 336)):=hr3.wide (by simp) (Nat.le_refl _)
 have INV:Hid (CrInv w w3 ws.length (spW (zbg ps 336) zs ps ws 0) ps (zhg ps 336) (w.heap.size+1+1) w2.heap.size w3.heap.size (.slice aW2 ws.length cW2) (.slice aP2 ps.length cP2) (.slice aU (zbg ps 336).length cU)) :=
  ⟨RW.o.below hb3 (by simp),RP.o.below hb3 (by simp),hr3',(hb3.block _ (by simp;omega)).trans VB.o,(hb3.block _ (by simp;omega)).trans VR.o,zab BB.o hb3 (by simp;omega),Nat.le_refl _⟩
 have hul:(zbg ps 336).length≤336:=by rw[← zdy];exact zuv ps 336
 clear hr3 hr3' hb3 y1 y2 y3 y4;go_wp2
 go_loopw [6,7,8] (fun ii _ _ wr=>∃ i:Nat,i≤(zbg ps 336).length∧ii=.int .i64 i∧Hid (CrInv w wr ws.length (spW (zbg ps 336) zs ps ws i) ps (zhg ps 336) (w.heap.size+1+1) w2.heap.size w3.heap.size (.slice aW2 ws.length cW2) (.slice aP2 ps.length cP2) (.slice aU (zbg ps 336).length cU))) (fun ii _ _ _=>(zbg ps 336).length - (intOf ii).toNat)
 case atStart=>exact ⟨0,by omega,rfl,INV⟩
 case round =>
  obtain ⟨i,hi,rfl,I⟩:=hrel
  by_cases hlt:i < (zbg ps 336).length
  ·have hal:(zbg ps 336)[i]?.getD 0 < ws.length:=by rw[L336.o];exact yajk ps 336 i hlt
   by_cases h0:zs.length=0
   ·have KST:Hid (Value.int IntKind.i64 0=.int .i64 (zoh (zbg ps 336) zs ps ws i 0)):=by
     show _=_
     rw[zvz];unfold zck;rw[if_pos h0]
    have h0':¬ (0:Int) < (zs.length:Int):=by omega
    clear h0;go_wp2
    go_loopw [7,8] (fun kk nn wr=>∃ n:Nat,n≤ps.length∧nn=.int .i64 n∧kk=.int .i64 (zoh (zbg ps 336) zs ps ws i n)∧Hid (CrInv w wr ws.length (zzp (zbg ps 336) zs ps ws i n) ps (zhg ps 336) (w.heap.size+1+1) w2.heap.size w3.heap.size (.slice aW2 ws.length cW2) (.slice aP2 ps.length cP2) (.slice aU (zbg ps 336).length cU))) (fun _ nn _=>ps.length - (intOf nn).toNat)
    case atStart=>exact ⟨0,by omega,rfl,KST.o,by rw[zzb _ _ _ _ _ hal];exact I⟩
    case round =>
     obtain ⟨n,hn,rfl,rfl,J⟩:=hrel;obtain ⟨kb0,kb1⟩:=yala (us:=zbg ps 336) (ps:=ps) (ws:=ws) (n:=n) (KB.o i);obtain ⟨y1,y2,y3,y4⟩:=zad J.o.box
     by_cases hlt2:n < ps.length
     ·by_cases hk:0 < zoh (zbg ps 336) zs ps ws i n
      ·obtain ⟨_,ao',cap',e',_,hc⟩:=J.o.pend.rd
       cases e'
       obtain ⟨bp,op,rfl,_,_⟩:=hc (by omega)
       obtain ⟨rfl,_,_,_,_,hcl⟩:=J.o.pend.at
       have e0:=(hcl (n*3) (by omega)).trans (zey _ n hlt2);have e1:=(hcl (n*3+1) (by omega)).trans (zie _ n hlt2);clear hc hcl;have hpl:=J.o.plc;rw[zdy] at hpl;obtain ⟨_,au',cu',eu',_,hcu⟩:=hpl.rd
       cases eu'
       obtain ⟨bu,ou,rfl,_,_⟩:=hcu (by omega)
       obtain ⟨rfl,_,_,_,_,hclu⟩:=hpl.at
       have hil:i < (zhg ps 336).length:=by rw[zdy];exact hlt
       have u0:=(hclu i (by omega)).trans (zay _ i hil);rw[yaat] at u0;clear hpl hcu hclu;obtain ⟨_,aw',cw',ew',_,hcw⟩:=J.o.words.rd
       cases ew'
       obtain ⟨bw,ow,rfl,_,_⟩:=hcw (by omega)
       obtain ⟨rfl,_,_,_,hfrw,hclw⟩:=J.o.words.at
       have hj:(zbg ps 336)[i]?.getD 0 < (zzp (zbg ps 336) zs ps ws i n).length:=by rw[yaed];exact hal
       have g0:=hfrw ((zbg ps 336)[i]?.getD 0);have g1:=(hclw ((zbg ps 336)[i]?.getD 0) (by omega)).trans (zay _ _ hj);clear hcw hfrw hclw
       have hlt2':(n:Int) < (ps.length:Int):=by omega
       have hlt':(i:Int) < ((zbg ps 336).length:Int):=by omega
       have n0:(0:Int)≤(n:Int):=by omega
       have i0:(0:Int)≤(i:Int):=by omega
       have a0:(0:Int)≤(((zbg ps 336)[i]?.getD 0:Nat):Int):=by omega
       have a1:(((zbg ps 336)[i]?.getD 0:Nat):Int) < (ws.length:Int):=by omega
       have MH:=zaa (fun h=>yaiy (zs:=zs) (ws:=ws) hlt2 hk h);have MM:=zaa (fun h=>yacs (us:=zbg ps 336) (zs:=zs) (ws:=ws) (i:=i) hlt2 h);generalize zoh (zbg ps 336) zs ps ws i n=mk at *;generalize ha:(zbg ps 336)[i]?.getD 0=a at *;clear ha
       by_cases c:ps[n].at_=(a:Int)
       ·obtain ⟨m1,m2⟩:=MH.o c;have M1:=zaa m1;have M2:=zaa m2
        have c':(ps[n].at_ == (a:Int))=true:=by simpa using c
        clear c m1 m2 MH MM;go_wp2
        go_quiet (fail)
        go_wp2
        go_region
        all_goals
         go_wp2
         go_roundw
         case rel =>
          refine ⟨n+1,by omega,by go_num,by rw[M2.o],?_⟩;rw[M1.o]
          first | exact ((J.o.drewN _).store (Nat.le_refl _) _ _).drew | exact ((J.o.drewN _).drew).store (Nat.le_refl _) _ _
         case measure=>simp[intOf];omega
       ·obtain ⟨m1,m2⟩:=MM.o c;have M1:=zaa m1;have M2:=zaa m2
        have c':(ps[n].at_ == (a:Int))=false:=by simpa using c
        clear c m1 m2 MH MM;go_wp2
        go_quiet (fail)
        go_wp2
        go_roundw
        case rel =>
         refine ⟨n+1,by omega,by go_num,by rw[M2.o],?_⟩;rw[M1.o];exact J.o.drewN _
        case measure=>simp[intOf];omega
      ·have E:=zaa (zoc (by omega) (.inr hk));have hk':¬ (0:Int) < zoh (zbg ps 336) zs ps ws i n:=hk
       have hkd:decide ((0:Int) < zoh (zbg ps 336) zs ps ws i n)=false:=by simpa using hk
       clear hk;go_wp2
       go_roundw
       case rel=>exact ⟨i+1,by omega,by go_num,E.o ▸ J⟩
       case measure=>simp[intOf];omega
     ·have E:=zaa (zoc (zs:=zs) (us:=zbg ps 336) (ws:=ws) (i:=i) hn (.inl (by omega)));go_wp2
      go_roundw
      case rel=>exact ⟨i+1,by omega,by go_num,E.o ▸ J⟩
      case measure=>simp[intOf];omega
   ·have hl:i % zs.length < zs.length:=Nat.mod_lt _ (by omega)
    have KST:Hid (Value.int IntKind.i64 zs[i % zs.length]=.int .i64 (zoh (zbg ps 336) zs ps ws i 0)):=by
     show _=_
     rw[zvz];unfold zck;rw[if_neg h0,List.getElem?_eq_getElem hl,Option.getD_some]
    obtain ⟨bz,oz,rfl,hbz,hcz⟩:=HZ.o (by omega);have hck:=(I.o.below.cell (p:=⟨bz,oz+i % zs.length,none⟩) hbz).trans (hcz (i % zs.length) hl)
    have h0':(0:Int) < (zs.length:Int):=by omega
    have m0:(0:Int)≤(i:Int) % (zs.length:Int):=Int.emod_nonneg _ (by omega);have m1:(i:Int) % (zs.length:Int) < (zs.length:Int):=Int.emod_lt_of_pos _ h0'
    have mt:((i:Int) % (zs.length:Int)).toNat=i % zs.length:=by rw[← Int.natCast_emod,Int.toNat_natCast]
    have hck2:wr.cell? ⟨bz,oz+((i:Int) % (zs.length:Int)).toNat,none⟩=some (.int .i64 zs[i % zs.length]):=by rw[mt];exact hck
    clear h0 hcz mt;go_wp2
    go_loopw [7,8] (fun kk nn wr=>∃ n:Nat,n≤ps.length∧nn=.int .i64 n∧kk=.int .i64 (zoh (zbg ps 336) zs ps ws i n)∧Hid (CrInv w wr ws.length (zzp (zbg ps 336) zs ps ws i n) ps (zhg ps 336) (w.heap.size+1+1) w2.heap.size w3.heap.size (.slice aW2 ws.length cW2) (.slice aP2 ps.length cP2) (.slice aU (zbg ps 336).length cU))) (fun _ nn _=>ps.length - (intOf nn).toNat)
    case atStart=>exact ⟨0,by omega,rfl,KST.o,by rw[zzb _ _ _ _ _ hal];exact I⟩
    case round =>
     obtain ⟨n,hn,rfl,rfl,J⟩:=hrel;obtain ⟨kb0,kb1⟩:=yala (us:=zbg ps 336) (ps:=ps) (ws:=ws) (n:=n) (KB.o i);obtain ⟨y1,y2,y3,y4⟩:=zad J.o.box
     by_cases hlt2:n < ps.length
     ·by_cases hk:0 < zoh (zbg ps 336) zs ps ws i n
      ·obtain ⟨_,ao',cap',e',_,hc⟩:=J.o.pend.rd
       cases e'
       obtain ⟨bp,op,rfl,_,_⟩:=hc (by omega)
       obtain ⟨rfl,_,_,_,_,hcl⟩:=J.o.pend.at
       have e0:=(hcl (n*3) (by omega)).trans (zey _ n hlt2);have e1:=(hcl (n*3+1) (by omega)).trans (zie _ n hlt2);clear hc hcl;have hpl:=J.o.plc;rw[zdy] at hpl;obtain ⟨_,au',cu',eu',_,hcu⟩:=hpl.rd
       cases eu'
       obtain ⟨bu,ou,rfl,_,_⟩:=hcu (by omega)
       obtain ⟨rfl,_,_,_,_,hclu⟩:=hpl.at
       have hil:i < (zhg ps 336).length:=by rw[zdy];exact hlt
       have u0:=(hclu i (by omega)).trans (zay _ i hil);rw[yaat] at u0;clear hpl hcu hclu;obtain ⟨_,aw',cw',ew',_,hcw⟩:=J.o.words.rd
       cases ew'
       obtain ⟨bw,ow,rfl,_,_⟩:=hcw (by omega)
       obtain ⟨rfl,_,_,_,hfrw,hclw⟩:=J.o.words.at
       have hj:(zbg ps 336)[i]?.getD 0 < (zzp (zbg ps 336) zs ps ws i n).length:=by rw[yaed];exact hal
       have g0:=hfrw ((zbg ps 336)[i]?.getD 0);have g1:=(hclw ((zbg ps 336)[i]?.getD 0) (by omega)).trans (zay _ _ hj);clear hcw hfrw hclw
       have hlt2':(n:Int) < (ps.length:Int):=by omega
       have hlt':(i:Int) < ((zbg ps 336).length:Int):=by omega
       have n0:(0:Int)≤(n:Int):=by omega
       have i0:(0:Int)≤(i:Int):=by omega
       have a0:(0:Int)≤(((zbg ps 336)[i]?.getD 0:Nat):Int):=by omega
       have a1:(((zbg ps 336)[i]?.getD 0:Nat):Int) < (ws.length:Int):=by omega
       have MH:=zaa (fun h=>yaiy (zs:=zs) (ws:=ws) hlt2 hk h);have MM:=zaa (fun h=>yacs (us:=zbg ps 336) (zs:=zs) (ws:=ws) (i:=i) hlt2 h);generalize zoh (zbg ps 336) zs ps ws i n=mk at *;generalize ha:(zbg ps 336)[i]?.getD 0=a at *;clear ha
       by_cases c:ps[n].at_=(a:Int)
       ·obtain ⟨m1,m2⟩:=MH.o c;have M1:=zaa m1;have M2:=zaa m2
        have c':(ps[n].at_ == (a:Int))=true:=by simpa using c
        clear c m1 m2 MH MM;go_wp2
        go_quiet (fail)
        go_wp2
        go_region
        all_goals
         go_wp2
         go_roundw
         case rel =>
          refine ⟨n+1,by omega,by go_num,by rw[M2.o],?_⟩;rw[M1.o]
          first | exact ((J.o.drewN _).store (Nat.le_refl _) _ _).drew | exact ((J.o.drewN _).drew).store (Nat.le_refl _) _ _
         case measure=>simp[intOf];omega
       ·obtain ⟨m1,m2⟩:=MM.o c;have M1:=zaa m1;have M2:=zaa m2
        have c':(ps[n].at_ == (a:Int))=false:=by simpa using c
        clear c m1 m2 MH MM;go_wp2
        go_quiet (fail)
        go_wp2
        go_roundw
        case rel =>
         refine ⟨n+1,by omega,by go_num,by rw[M2.o],?_⟩;rw[M1.o];exact J.o.drewN _
        case measure=>simp[intOf];omega
      ·have E:=zaa (zoc (by omega) (.inr hk));have hk':¬ (0:Int) < zoh (zbg ps 336) zs ps ws i n:=hk
       have hkd:decide ((0:Int) < zoh (zbg ps 336) zs ps ws i n)=false:=by simpa using hk
       clear hk;go_wp2
       go_roundw
       case rel=>exact ⟨i+1,by omega,by go_num,E.o ▸ J⟩
       case measure=>simp[intOf];omega
     ·have E:=zaa (zoc (zs:=zs) (us:=zbg ps 336) (ws:=ws) (i:=i) hn (.inl (by omega)));go_wp2
      go_roundw
      case rel=>exact ⟨i+1,by omega,by go_num,E.o ▸ J⟩
      case measure=>simp[intOf];omega
  ·have e:i=(zbg ps 336).length:=by omega
   subst e;obtain ⟨y1,y2,y3,y4⟩:=zad I.o.box;obtain ⟨t1,t2,t3,t4⟩:=zad I.o.res;obtain ⟨z1,z2,z3,z4⟩:=zad (zal (o:=.cells #[] 147) I.o.box);obtain ⟨z5,z6,z7,z8⟩:=zad (zal (o:=.cells #[] 147) I.o.res);have hsz:=I.o.size
   have ho:(wr.alloc (.cells #[] 147)).ownsRow (w.heap.size+2) 147 3 (.slice (some ⟨wr.heap.size,0,none⟩) 0 0) 0 []:=by
    simpa using World.ownsRow_lit (base:=w.heap.size+2) (e:=147) (size:=3) wr #[] 0 (by omega) (by simp) rfl
   have HO:=zaa ho;clear ho;go_wp2;refine bodyPost_ret (v:=.agg #[.slice aW2 ws.length cW2,.slice (some ⟨wr.heap.size,0,none⟩) 0 0]) (by simp[results,Tryz.results66,go_sem,z5,z6]) rfl ?_;refine ⟨_,rfl,⟨_,_,rfl,?_,?_⟩,(((I.o.below.alloc (by omega) _).setCell (by simp only;omega) _).setCell (by simp only;omega) _).setCell (by simp only;omega) _⟩
   ·rw[zhp];refine ((I.o.words.alloc (by omega) (.cells #[] 147)).same fun b h1 h2=>?_).wide (by omega) (by simp;omega);rw[Below.heap_setCell _ _ _ _ (by simp only;omega),Below.heap_setCell _ _ _ _ (by simp only;omega),Below.heap_setCell _ _ _ _ (by simp only;omega)]
   ·refine ((zai HO.o).same fun b h1 h2=>?_).wide (by omega) (by simp);rw[Below.heap_setCell _ _ _ _ (by simp only;omega),Below.heap_setCell _ _ _ _ (by simp only;omega),Below.heap_setCell _ _ _ _ (by simp only;omega)]
end Go.Proofs.YtahiphgmhndgaaaGreatDoor

namespace Go.Proofs.YtahiphgmhndgaaaGreatDoor
open Go.ChangeShapes Go.WideShapes Go.ChangeAt Go.RowKit Go.Joins
theorem own:ownKnob Tryz.prog.godebug=none:=by kernel_rfl
theorem zia:laidOutB Tryz.prog=true:=by kernel_rfl
theorem zkx:Tryz.prog.cellsOf 3=1:=by kernel_rfl
theorem yaum:Tryz.prog.cellsOf 4=1:=by kernel_rfl
theorem zfs {α:Type} {P:Nat→α→Prop}:∀ (n:Nat),(∀ i,i < n→∃ x,P i x)→∃ l:List α,l.length=n∧∀ i (hi:i < l.length),P i l[i]
 | 0,_=>⟨[],rfl,fun i hi=>absurd hi (by simp)⟩
 | n+1,h=>by
  obtain ⟨l,hl,hp⟩:=zfs n (fun i hi=>h i (by omega));obtain ⟨x,hx⟩:=h n (by omega);refine ⟨l ++ [x],by simp[hl],fun i hi=>?_⟩
  by_cases e:i < l.length
  ·rw[List.getElem_append_left e];exact hp i e
  ·have e':i=n:=by simp at hi;omega
   subst e';rw[List.getElem_append_right (by omega)];simpa[hl] using hx
section
variable {H:Type} {enc:TypeId×Value→H} {W:World} {sp:Nat→Bool} {held:Bool} {fuel:Nat} {v:Value} {y:DataW H×List MemPlace}
theorem zkv (h:DataW.trod enc Tryz.prog W 0 sp held fuel 22 [v]=some y):∃ zs:List Int,RdI W v zs∧zs.length≤maxLen∧∀ z∈zs,(Lit.int .i64 z).wf=true:=by
 rcases open_ints Tryz.underlying22 Tryz.underlying3 zkx h with ⟨hcs,_⟩ | ⟨a,len,cap,zs,hcs,_,hl,hm,hz,_,hcell,hwz⟩
 ·simp only[List.cons.injEq,and_true] at hcs;subst hcs;exact ⟨[],⟨rfl,none,0,rfl,⟨Nat.le_refl _,fun _=>rfl⟩,fun h=>absurd h (by simp)⟩,by simp,fun z hz=>by simp at hz⟩
 ·simp only[List.cons.injEq,and_true] at hcs;subst hcs
  have hzl:len≤zs.length:=by rw[hz];split <;> omega
  have e:(zs.take len).length=len:=by simp;omega
  refine ⟨zs.take len,⟨by simp[zav],some a,cap,by rw[e],⟨by rw[e];exact hl,fun e=>by cases e⟩,fun hn=>?_⟩,by rw[e];omega,fun z hz=>hwz z (List.mem_of_mem_take hz)⟩;rw[e] at hn;obtain ⟨b,off,spot⟩:=a;have hc:=hcell 0 (by omega)
  have hspot:spot=none:=by simpa[Addr.add] using World.cell?_spot hc
  subst hspot;refine ⟨b,off,rfl,World.block_lt_of_cell? W _ (by simpa[Addr.add] using hc),fun j hj=>?_⟩;rw[e] at hj;have hc:=hcell j (by omega);rw[Addr.add_lit] at hc;rw[hc,zay _ j (by rw[e];omega)];simp[List.getD,show j < zs.length by omega]
end
end Go.Proofs.YtahiphgmhndgaaaGreatDoor

namespace Go.Proofs.YtahiphgmhndgaaaGreatDoor
open Go.ChangeShapes Go.WideShapes Go.ChangeAt Go.RowKit Go.Joins
theorem yafz:Tryz.prog.cellsOf 194=3:=by kernel_rfl
theorem yats:Tryz.prog.cellsOf 25=2:=by kernel_rfl
section
variable {H:Type} {enc:TypeId×Value→H} {W:World} {sp:Nat→Bool} {held:Bool} {fuel:Nat} {v:Value} {y:DataW H×List MemPlace}
theorem yaoy (h:DataW.trod enc Tryz.prog W 0 sp held fuel 23 [v]=some y):∃ ps:List St,RdS W v ps∧ps.length≤maxLen∧∀ p∈ps,(Lit.int .i64 p.at_).wf=true∧(Lit.int .i64 p.val).wf=true:=by
 rcases Deep.open_slice Tryz.underlying23 h with ⟨hcs,_⟩ | ⟨a,len,cap,m,n,D,Pl,hcs,_,hl,hm,hmm,_,hel⟩
 ·simp only[List.cons.injEq,and_true] at hcs;subst hcs;exact ⟨[],⟨rfl,none,0,rfl,⟨Nat.le_refl _,fun _=>rfl⟩,fun h=>absurd h (by simp)⟩,by simp,fun p hp=>by simp at hp⟩
 ·simp only[List.cons.injEq,and_true] at hcs;subst hcs
  have hlm:len≤m:=by rw[hmm];split <;> omega
  have one:∀ i,i < len→∃ s:St,(W.cell? ((a.add (i*3)).add 0)=some (.int .i64 s.at_)∧W.cell? ((a.add (i*3)).add 1)=some (.int .i64 s.val)∧W.cell? ((a.add (i*3)).add 2)=some (.bool s.fl))∧(Lit.int .i64 s.at_).wf=true∧(Lit.int .i64 s.val).wf=true:=by
   intro i hi;obtain ⟨cs,hcs,ht⟩:=hel i (by omega);rw[yafz] at hcs;obtain ⟨_,hlen,hc⟩:=World.cells?_some hcs;obtain ⟨y0,y1,y2,n',_,_,t0,t1,t2⟩:=Deep.trod_struct3 Tryz.underlying194 ht;obtain ⟨z0,e0,_,w0⟩:=DataW.trod_int Tryz.underlying3 t0;obtain ⟨z1,e1,_,w1⟩:=DataW.trod_int Tryz.underlying3 t1;obtain ⟨z2,e2,_⟩:=DataW.trod_bool Tryz.underlying4 t2;simp only[zkx,yaum] at e0 e1 e2
   match cs,hlen with
   | [c0,c1,c2],_ =>
    simp at e0 e1 e2;subst e0 e1 e2;exact ⟨⟨z0,z1,z2⟩,⟨by simpa using hc 0 (by omega),by simpa using hc 1 (by omega),by simpa using hc 2 (by omega)⟩,w0,w1⟩
  obtain ⟨ps,hpl,hps⟩:=zfs len one;refine ⟨ps,⟨zlr ps,some a,cap,by rw[hpl],⟨by rw[hpl];exact hl,fun e=>by cases e⟩,fun hn=>?_⟩,by rw[hpl];omega,fun p hp=>?_⟩
  ·obtain ⟨b,off,spot⟩:=a;have hc:=(hps 0 hn).1.1
   have hspot:spot=none:=by simpa[Addr.add] using World.cell?_spot hc
   subst hspot;refine ⟨b,off,rfl,World.block_lt_of_cell? W _ (by simpa[Addr.add] using hc),fun j hj=>?_⟩
   have hk:j / 3 < ps.length:=by omega
   obtain ⟨⟨q0,q1,q2⟩,_⟩:=hps (j / 3) hk;simp only[Addr.add_lit,Nat.add_zero] at q0 q1 q2
   have hj3:j=j / 3*3+j % 3:=by omega
   rcases (show j % 3=0∨j % 3=1∨j % 3=2 from by omega) with r | r | r
   ·rw[hj3,r,Nat.add_zero,q0,zey ps _ hk]
   ·rw[hj3,r,← Nat.add_assoc,q1,zie ps _ hk]
   ·rw[hj3,r,← Nat.add_assoc,q2,zhx ps _ hk]
  ·obtain ⟨i,hi,rfl⟩:=List.getElem_of_mem hp;exact (hps i hi).2
end
end Go.Proofs.YtahiphgmhndgaaaGreatDoor

namespace Go.Proofs.YtahiphgmhndgaaaGreatDoor
open Go.RowKit
def zdl (ws:List Int) (ps:List St) (at_:Int):List Int:=if zjw ws ps at_=0 then ws else []
def zdn (ws:List Int) (ps:List St) (at_:Int):List St:=if zjw ws ps at_=0 then ps.map (fl1 at_) else []
theorem yalj {ws:List Int} {ps:List St} {at_:Int} (h:¬ zjw ws ps at_=0):zdl ws ps at_=[]∧zdn ws ps at_=[]:=by
 unfold zdl zdn;rw[if_neg h,if_neg h];exact ⟨rfl,rfl⟩
theorem yanc {ws:List Int} {ps:List St} {at_:Int} (h:zjw ws ps at_=0):zdl ws ps at_=ws∧zdn ws ps at_=ps.map (fl1 at_):=by
 unfold zdl zdn;rw[if_pos h,if_pos h];exact ⟨rfl,rfl⟩
theorem zqb (v:Value) (ws:List Int) (ps:List St) (at_:Int) (w:World) (h:RdPm w v ws ps) (hw:ws.length≤1048576) (hp:ps.length≤1048576) :
  Calls Tryz.prog 147 #[v,.int .i64 at_] w fun e w'=>∃ v',e=.returned (.tuple #[v',.int .i64 (zjw ws ps at_)])∧RowPm w' w.heap.size w'.heap.size v' (zdl ws ps at_) (zdn ws ps at_)∧Below w.heap.size w w':=by
 have HR:=zaa h;obtain ⟨vW,vP,rfl,h1,h2⟩:=h;obtain ⟨aW,cW,rfl,_⟩:=h1.shape;obtain ⟨aP,cP,rfl,_⟩:=h2.shape;clear h1 h2
 have hb0:Below w.heap.size w ((w.alloc (.cells #[.slice aW ws.length cW,.slice aP ps.length cP] 40)).alloc (.cells #[.slice none 0 0,.slice none 0 0] 40)):=by
  repeat (refine Below.alloc ?_ (by simp <;> omega) _)
  exact Below.refl _ _
 rcases ztc ws ps at_ with hc | ⟨hc,hok,k,rfl,hk,hkl⟩
 ·obtain ⟨e2,e3⟩:=yalj (ws:=ws) (ps:=ps) (at_:=at_) (by rcases hc with hc | hc <;> simp[hc]);rw[e2,e3];clear e2 e3
  have hne:(zjw ws ps at_ != 0)=true:=by rcases hc with hc | hc <;> simp[hc]
  clear hc;go_enter Tryz.func147,Tryz.ntmps147;go_wp2_with fail;refine (zcx _ ws ps _ _ (HR.o.below hb0) hw hp).mono ?_;rintro e w1 ⟨rfl,hb1⟩;have V1:=(hb1.block (w.heap.size+1) (by simp)).trans (zag (by simp));obtain ⟨t1,t2,t3,t4⟩:=zad V1;have B1:=zaa (zab hb0 hb1 (by simp <;> omega));clear hb0 hb1 V1;go_wp2;refine bodyPost_ret (v:=.tuple #[.agg #[.slice none 0 0,.slice none 0 0],.int .i64 (zjw ws ps at_)]) (by simp[results,Tryz.results147,go_sem,t1,t2]) rfl ?_;exact ⟨_,rfl,RowPm.zero _ _ _,(B1.o.setCell (by simp only;omega) _).setCell (by simp only;omega) _⟩
 ·obtain ⟨e2,e3⟩:=yanc hc;rw[e2,e3];clear e2 e3;have C:=zaa hc;have OK:=zaa (zsz hok);clear hc hok;go_enter Tryz.func147,Tryz.ntmps147;go_wp2_with fail;refine (zcx _ ws ps _ _ (HR.o.below hb0) hw hp).mono ?_;rw[C.o];rintro e w1 ⟨rfl,hb1⟩
  have hz1:w.heap.size+2≤w1.heap.size:=by have:=hb1.size;simp at this;omega
  have V0:=(hb1.block w.heap.size (by simp <;> omega)).trans (zal (zag rfl));have V1:=(hb1.block (w.heap.size+1) (by simp)).trans (zag (by simp));obtain ⟨x1,x2,x3,x4⟩:=zad V0;have B1:=zaa (zab hb0 hb1 (by simp <;> omega));have VH:=zaa V1;clear hb0 hb1 V0 V1;go_wp2_with fail;refine (zik _ ws ps _ (HR.o.below B1.o) (by omega) (by omega)).mono ?_;rintro e w2 ⟨v2,rfl,hr2,hb2⟩;obtain ⟨vW2,vP2,rfl,hI2,hS2⟩:=hr2;obtain ⟨aW2,cW2,rfl⟩:=RdI.form hI2.rd rfl;obtain ⟨aP2,cP2,rfl⟩:=RdS.form hS2.rd rfl;have hz2:=hb2.size;have B2:=zaa ((zab B1.o hb2 (by omega)).alloc (by omega) (.cells #[.slice aW2 ws.length cW2,.slice aP2 ps.length cP2] 40));have V2:=zaa (zal (o:=.cells #[.slice aW2 ws.length cW2,.slice aP2 ps.length cP2] 40) ((hb2.block _ hz1).trans VH.o));have bb:Below w2.heap.size w2 (w2.alloc (.cells #[.slice aW2 ws.length cW2,.slice aP2 ps.length cP2] 40)):=(Below.refl _ _).alloc (Nat.le_refl _) _;have RI:=zaa (hI2.below bb (Nat.le_refl _));have RS:=zaa (hS2.below bb (Nat.le_refl _));have V7:Hid ((w2.alloc (.cells #[.slice aW2 ws.length cW2,.slice aP2 ps.length cP2] 40)).heap[w2.heap.size]?=some (.cells #[.slice aW2 ws.length cW2,.slice aP2 ps.length cP2] 40 (0,0))):=zag rfl;clear hb2 hI2 hS2 bb x1 x2 x3 x4;go_wp2
  go_loopw [8,21] (fun _ i wr=>∃ m:Nat,m≤ps.length∧i=.int .i64 m∧Row wr 147 3 w1.heap.size w2.heap.size (.slice aP2 ps.length cP2) ps.length (sts (mix (k:Int) ps m))∧Row wr 3 1 w1.heap.size w2.heap.size (.slice aW2 ws.length cW2) ws.length (zav ws)∧(wr.heap[w2.heap.size]?=some (.cells #[.slice aW2 ws.length cW2,.slice aP2 ps.length cP2] 40 (0,0))∧wr.heap[w.heap.size+1]?=some (.cells #[.slice none 0 0,.slice none 0 0] 40 (0,0)))∧Below w.heap.size w wr∧w2.heap.size+1≤wr.heap.size) (fun _ i _=>ps.length - (intOf i).toNat)
  case atStart=>exact ⟨0,by omega,rfl,by rw[yacj];exact RS.o,RI.o,⟨V7.o,V2.o⟩,B2.o,by simp⟩
  case round =>
   obtain ⟨m,hm,rfl,hrow,hint,hv,hb,hz⟩:=hrel;obtain ⟨y1,y2,y3,y4⟩:=zad hv.1
   by_cases hlt:m < ps.length
   ·have hl:=zuf (k:Int) ps m hm;obtain ⟨_,ao',cap',e',_,hc⟩:=hrow.rd
    cases e'
    obtain ⟨b,o,rfl,hbl,_⟩:=hc (by omega)
    obtain ⟨rfl,hb1,hb2,_,hfr,hcl⟩:=hrow.at
    have hml:m < (mix (k:Int) ps m).length:=by omega
    have e0:=(hcl (m*3) (by omega)).trans (zey _ m hml);have e2:=(hcl (m*3+2) (by omega)).trans (zhx _ m hml);rw[yade _ _ _ hlt hml] at e0 e2;have f2:=hfr (m*3+2);obtain ⟨q0,q1⟩:=OK.o m hlt;have ST:=zaa (hrow.stored (m*3+2) (.bool true));have IT:=zaa (hint.apart hrow (by decide) (World.ownsRow.stored hrow.1 (m*3+2) (.bool true)).2);have BH2:=zaa (hb.setCell (p:=⟨b,m*3+2,none⟩) (by simp only;omega) (.bool true));have VH2:=zaa (And.intro ((Below.heap_setCell wr ⟨b,m*3+2,none⟩ (.bool true) w2.heap.size (by simp only;omega)).trans hv.1) ((Below.heap_setCell wr ⟨b,m*3+2,none⟩ (.bool true) (w.heap.size+1) (by simp only;omega)).trans hv.2));have RM:=zaa hrow;have IM:=zaa hint;have VM:=zaa hv;clear hrow hint hc hfr hcl hv hl
    by_cases c:ps[m].at_ / 8=(k:Int) / 8
    ·have c':(ps[m].at_ / 8 == (k:Int) / 8)=true:=by simpa using c
     have E:=zaa (yais hlt c);clear c;go_wp2
     go_roundw
     case rel=>exact ⟨m+1,by omega,by go_num,E.o ▸ ST.o,IT.o,VH2.o,BH2.o,by simp;omega⟩
     case measure=>simp[intOf];omega
    ·have c':(ps[m].at_ / 8 == (k:Int) / 8)=false:=by simpa using c
     have E:=zaa (yacq hlt c);clear c;go_wp2
     go_roundw
     case rel=>exact ⟨m+1,by omega,by go_num,E.o ▸ RM.o,IM.o,VM.o,hb,hz⟩
     case measure=>simp[intOf];omega
   ·have e:m=ps.length:=by omega
    subst e;obtain ⟨t1,t2,t3,t4⟩:=zad hv.2;have RM:=zaa hrow;have IM:=zaa hint;clear hrow hint hv;go_wp2;rw[C.o];refine bodyPost_ret (v:=.tuple #[.agg #[.slice aW2 ws.length cW2,.slice aP2 ps.length cP2],.int .i64 0]) (by simp[results,Tryz.results147,go_sem,t1,t2]) rfl ?_
    have hrow:RowPm wr w1.heap.size w2.heap.size (.agg #[.slice aW2 ws.length cW2,.slice aP2 ps.length cP2]) ws (ps.map (fl1 (k:Int))):=by
     refine ⟨_,_,rfl,IM.o,?_⟩;rw[List.length_map,← yamh];exact RM.o
    exact ⟨_,rfl,((hrow.setCell (by simp only;omega) _).setCell (by simp only;omega) _).wide (by omega) (by simp;omega),(hb.setCell (by simp only;omega) _).setCell (by simp only;omega) _⟩
end Go.Proofs.YtahiphgmhndgaaaGreatDoor
