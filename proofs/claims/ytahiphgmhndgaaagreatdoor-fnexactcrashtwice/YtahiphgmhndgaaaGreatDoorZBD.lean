/- Several texts laid together: CrashSE, JrE, JrX. -/
import Derived.Test.YtahiphgmhndgaaaGreatDoorZBC
import Derived.Test.YtahiphgmhndgaaaGreatDoorZAG
import Derived.BigRegion
import Derived.Test.YtahiphgmhndgaaaGreatDoorZAX
import Derived.Test.YtahiphgmhndgaaaGreatDoorZBA
import Derived.Test.YtahiphgmhndgaaaGreatDoorZAJ
set_option maxRecDepth 100000
set_option maxHeartbeats 8000000
namespace Go.Proofs.YtahiphgmhndgaaaGreatDoor
open Go.RowKit
structure CrIE (w wr:World) (n:Nat) (X:List Int) (ps:List Se) (us:List Int) (lo hi hi2:Nat) (vW vP vU:Value):Prop where
 words:Row wr 3 1 lo hi vW n (zav X)
 pend:Row wr 150 2 lo hi vP ps.length (ses ps)
 plc:Row wr 3 1 hi hi2 vU us.length (zav us)
 box:wr.heap[w.heap.size]?=some (.cells #[vW,vP] 43 (0,0))
 res:wr.heap[w.heap.size+1]?=some (.cells #[.slice none 0 0,.slice none 0 0] 43 (0,0))
 below:Below w.heap.size w wr
 size:hi2≤wr.heap.size
theorem CrIE.drewN {w wr:World} {n:Nat} {X:List Int} {ps:List Se} {us:List Int} {lo hi hi2:Nat} {vW vP vU:Value} (h:CrIE w wr n X ps us lo hi hi2 vW vP vU) (m:Nat):CrIE w (wr.drewN m) n X ps us lo hi hi2 vW vP vU:=by
 obtain ⟨h1,h2,h3,h4,h5,h6,h7⟩:=h;exact ⟨h1.same (fun _ _ _=>rfl),h2.same (fun _ _ _=>rfl),h3.same (fun _ _ _=>rfl),h4,h5,below_drewN h6 m,h7⟩
theorem CrIE.drew {w wr:World} {n:Nat} {X:List Int} {ps:List Se} {us:List Int} {lo hi hi2:Nat} {vW vP vU:Value} (h:CrIE w wr n X ps us lo hi hi2 vW vP vU):CrIE w wr.drew n X ps us lo hi hi2 vW vP vU:=by
 obtain ⟨h1,h2,h3,h4,h5,h6,h7⟩:=h;exact ⟨h1.same (fun _ _ _=>rfl),h2.same (fun _ _ _=>rfl),h3.same (fun _ _ _=>rfl),h4,h5,h6.drew,h7⟩
theorem CrIE.store {w wr:World} {n:Nat} {X:List Int} {ps:List Se} {us:List Int} {lo hi hi2:Nat} {b cap:Nat} {vP vU:Value} (h:CrIE w wr n X ps us lo hi hi2 (.slice (some ⟨b,0,none⟩) n cap) vP vU) (hlo:w.heap.size+2≤lo) (a:Nat) (x:Int) :
  CrIE w (wr.setCell ⟨b,a,none⟩ (.int .i64 x)) n (X.set a x) ps us lo hi hi2 (.slice (some ⟨b,0,none⟩) n cap) vP vU:=by
 obtain ⟨h1,h2,h3,h4,h5,h6,h7⟩:=h
 obtain ⟨_,hb1,hb2,_⟩:=h1.at
 refine ⟨?_,h2.apart h1 (by decide) (World.ownsRow.stored h1.1 _ _).2,h3.same (fun k hk _=>Below.heap_setCell _ _ _ _ (by simp only;omega)),?_,?_,h6.setCell (by simp only;omega) _,by simp;omega⟩
 ·rw[← zeo];exact h1.stored _ _
 ·rw[Below.heap_setCell _ _ _ _ (by simp only;omega)];exact h4
 ·rw[Below.heap_setCell _ _ _ _ (by simp only;omega)];exact h5
def zzq (us:List Nat) (zs:List Int) (ps:List Se) (ws:List Int) (i n:Nat):List Int :=
 (spE us zs ps ws i).set (us[i]?.getD 0) (zec (us[i]?.getD 0) ((spE us zs ps ws i)[us[i]?.getD 0]?.getD 0,zck zs i) (ps.take n)).1
def zfj (us:List Nat) (zs:List Int) (ps:List Se) (ws:List Int) (i n:Nat):Int :=
 (zec (us[i]?.getD 0) ((spE us zs ps ws i)[us[i]?.getD 0]?.getD 0,zck zs i) (ps.take n)).2
theorem zwu (us:List Nat) (zs:List Int) (ps:List Se) (ws:List Int) (i:Nat) (h:us[i]?.getD 0 < ws.length):zzq us zs ps ws i 0=spE us zs ps ws i:=by
 unfold zzq
 have hl:us[i]?.getD 0 < (spE us zs ps ws i).length:=by rw[zhm];exact h
 rw[List.take_zero,yajs];simp[hl]
theorem zry (us:List Nat) (zs:List Int) (ps:List Se) (ws:List Int) (i:Nat):zfj us zs ps ws i 0=zck zs i:=rfl
theorem yakh {a:Nat} {s:Int×Int} {ps:List Se} {n:Nat} (h:¬ 0 < (zec a s (ps.take n)).2):zec a s ps=zec a s (ps.take n):=by
 have e:zec a s (ps.take n ++ ps.drop n)=zec a s (ps.take n):=by rw[zvy,zlv h]
 rw[List.take_append_drop] at e;exact e
theorem zny {us:List Nat} {zs:List Int} {ps:List Se} {ws:List Int} {i n:Nat} (_hn:n≤ps.length) (h:n=ps.length∨¬ 0 < zfj us zs ps ws i n):zzq us zs ps ws i n=spE us zs ps ws (i+1):=by
 unfold zzq;rw[spE]
 congr 2
 rcases h with h | h
 ·rw[h,List.take_length]
 ·exact (yakh h).symm
theorem yacu {us:List Nat} {zs:List Int} {ps:List Se} {ws:List Int} {i n:Nat} (hn:n < ps.length) (hk:0 < zfj us zs ps ws i n) (h:ps[n].at_=((us[i]?.getD 0:Nat):Int)) :
  zzq us zs ps ws i (n+1)=(zzq us zs ps ws i n).set (us[i]?.getD 0) ps[n].val∧zfj us zs ps ws i (n+1)=zfj us zs ps ws i n - 1:=by
 unfold zzq zfj at *;rw[zbd ps n hn,zsh];unfold zeh;rw[if_pos ⟨h,hk⟩];exact ⟨by rw[List.set_set],rfl⟩
theorem zza {us:List Nat} {zs:List Int} {ps:List Se} {ws:List Int} {i n:Nat} (hn:n < ps.length) (h:¬ ps[n].at_=((us[i]?.getD 0:Nat):Int)) :
  zzq us zs ps ws i (n+1)=zzq us zs ps ws i n∧zfj us zs ps ws i (n+1)=zfj us zs ps ws i n:=by
 unfold zzq zfj;rw[zbd ps n hn,zsh];unfold zeh;rw[if_neg (fun x=>h x.1)];exact ⟨rfl,rfl⟩
theorem yadv (us:List Nat) (zs:List Int) (ps:List Se) (ws:List Int) (i n:Nat):(zzq us zs ps ws i n).length=ws.length:=by unfold zzq;rw[List.length_set,zhm]
theorem yaei {us:List Nat} {zs:List Int} {ps:List Se} {ws:List Int} {i n:Nat} (h:0≤zck zs i∧zck zs i≤400):0≤zfj us zs ps ws i n∧zfj us zs ps ws i n≤400:=by
 have:=zml (a:=us[i]?.getD 0) (ps.take n) ((spE us zs ps ws i)[us[i]?.getD 0]?.getD 0,zck zs i) h.1;unfold zfj;simp only at this;omega
theorem zzf (v vZ:Value) (ws:List Int) (ps:List Se) (zs:List Int) (w:World) (h:RdBlk w v ws ps) (hz:RdI w vZ zs) (hw:ws.length≤1048576) (hp:ps.length≤1048576) (hzl:zs.length≤1048576) (hok:zbp ws ps=true) (hks:zaw zs=true) :
  Calls Tryz.prog 67 #[v,vZ] w fun e w'=>∃ v',e=.returned v'∧RowBlk w' w.heap.size w'.heap.size v' (spE (zar ps 32) zs ps ws (zar ps 32).length) []∧Below w.heap.size w w':=by
 have HR:=zaa h;obtain ⟨vW,vP,rfl,h1,h2⟩:=h;obtain ⟨aW,cW,rfl,_⟩:=h1.shape;obtain ⟨aP,cP,rfl,_⟩:=h2.shape;obtain ⟨aZ,cZ,rfl,_,hcZ⟩:=hz.shape;have HZ:=zaa hcZ;have KB:=zaa (zoa hks);have L32:=zaa (zbt hok).1;clear h1 h2 hz hcZ hok hks
 have hb0:Below w.heap.size w ((w.alloc (.cells #[.slice aW ws.length cW,.slice aP ps.length cP] 43)).alloc (.cells #[.slice none 0 0,.slice none 0 0] 43)):=by
  repeat (refine Below.alloc ?_ (by simp <;> omega) _)
  exact Below.refl _ _
 go_enter Tryz.func67,Tryz.ntmps67;go_wp2_with fail;refine (zsg _ ws ps _ (HR.o.below hb0) (by omega) (by omega)).mono ?_;rintro e w2 ⟨v2,rfl,hr2,hb2⟩;obtain ⟨vW2,vP2,rfl,hI2,hS2⟩:=hr2;obtain ⟨aW2,cW2,rfl⟩:=RdI.form hI2.rd rfl;obtain ⟨aP2,cP2,rfl⟩:=RdE.form hS2.rd rfl;simp only[World.size_alloc] at hI2 hS2
 have hz2:w.heap.size+2≤w2.heap.size:=by have:=hb2.size;simp at this;omega
 have V0:=(hb2.block w.heap.size (by simp <;> omega)).trans (zal (zag rfl));have V1:=(hb2.block (w.heap.size+1) (by simp)).trans (zag (by simp));have B2:=zab hb0 hb2 (by simp <;> omega);obtain ⟨x1,x2,x3,x4⟩:=zad V0
 have KEEP:∀ b,w.heap.size+2≤b→((w2.setCell ⟨w.heap.size,0,none⟩ (.slice aW2 ws.length cW2)).setCell ⟨w.heap.size,1,none⟩ (.slice aP2 ps.length cP2)).heap[b]?=w2.heap[b]?:=fun b hb=>by
  rw[Below.heap_setCell _ _ _ _ (by simp only;omega),Below.heap_setCell _ _ _ _ (by simp only;omega)]
 have RW:=zaa (hI2.same (fun b hb1 _=>KEEP b (by omega)));have RP:=zaa (hS2.same (fun b hb1 _=>KEEP b (by omega)));have VB:=zaa (zga (zep V0 (.slice aW2 ws.length cW2)) (.slice aP2 ps.length cP2))
 have VR:Hid (((w2.setCell ⟨w.heap.size,0,none⟩ (.slice aW2 ws.length cW2)).setCell ⟨w.heap.size,1,none⟩ (.slice aP2 ps.length cP2)).heap[w.heap.size+1]?=some (.cells #[.slice none 0 0,.slice none 0 0] 43 (0,0))):=by
  show _=_
  rw[Below.heap_setCell _ _ _ _ (by simp only;omega),Below.heap_setCell _ _ _ _ (by simp only;omega)];exact V1
 have BB:=zaa ((B2.setCell (p:=⟨w.heap.size,0,none⟩) (by simp only;omega) (.slice aW2 ws.length cW2)).setCell (p:=⟨w.heap.size,1,none⟩) (by simp only;omega) (.slice aP2 ps.length cP2));obtain ⟨y1,y2,y3,y4⟩:=zad VB.o;clear hb0 hb2 hI2 hS2 V0 V1 B2 KEEP;go_wp2_with fail;refine (zvg _ ws ps _ ⟨_,_,rfl,RW.o.rd,RP.o.rd⟩ hp).mono ?_;rintro e w3 ⟨v3,rfl,hr3,hb3⟩;obtain ⟨aU,cU,rfl⟩:=RdI.form hr3.rd (n:=(zar ps 32).length) (zdd ps 32)
 have hz3:w2.heap.size≤w3.heap.size:=by have:=hb3.size;simpa using this
 have hr3':Row w3 3 1 w2.heap.size w3.heap.size (.slice aU (zar ps 32).length cU) (zcr ps 32).length (zav (zcr ps 32)):=hr3.wide (by simp) (Nat.le_refl _)
 have INV:Hid (CrIE w w3 ws.length (spE (zar ps 32) zs ps ws 0) ps (zcr ps 32) (w.heap.size+1+1) w2.heap.size w3.heap.size (.slice aW2 ws.length cW2) (.slice aP2 ps.length cP2) (.slice aU (zar ps 32).length cU)) :=
  ⟨RW.o.below hb3 (by simp),RP.o.below hb3 (by simp),hr3',(hb3.block _ (by simp;omega)).trans VB.o,(hb3.block _ (by simp;omega)).trans VR.o,zab BB.o hb3 (by simp;omega),Nat.le_refl _⟩
 have hul:(zar ps 32).length≤32:=by rw[← zdd];exact znw ps 32
 clear hr3 hr3' hb3 y1 y2 y3 y4;go_wp2
 go_loopw [6,7,8] (fun ii _ _ wr=>∃ i:Nat,i≤(zar ps 32).length∧ii=.int .i64 i∧Hid (CrIE w wr ws.length (spE (zar ps 32) zs ps ws i) ps (zcr ps 32) (w.heap.size+1+1) w2.heap.size w3.heap.size (.slice aW2 ws.length cW2) (.slice aP2 ps.length cP2) (.slice aU (zar ps 32).length cU))) (fun ii _ _ _=>(zar ps 32).length - (intOf ii).toNat)
 case atStart=>exact ⟨0,by omega,rfl,INV⟩
 case round =>
  obtain ⟨i,hi,rfl,I⟩:=hrel
  by_cases hlt:i < (zar ps 32).length
  ·have hal:(zar ps 32)[i]?.getD 0 < ws.length:=by rw[L32.o];exact yaeg ps 32 i hlt
   by_cases h0:zs.length=0
   ·have KST:Hid (Value.int IntKind.i64 0=.int .i64 (zfj (zar ps 32) zs ps ws i 0)):=by
     show _=_
     rw[zry];unfold zck;rw[if_pos h0]
    have h0':¬ (0:Int) < (zs.length:Int):=by omega
    clear h0;go_wp2
    go_loopw [7,8] (fun kk nn wr=>∃ n:Nat,n≤ps.length∧nn=.int .i64 n∧kk=.int .i64 (zfj (zar ps 32) zs ps ws i n)∧Hid (CrIE w wr ws.length (zzq (zar ps 32) zs ps ws i n) ps (zcr ps 32) (w.heap.size+1+1) w2.heap.size w3.heap.size (.slice aW2 ws.length cW2) (.slice aP2 ps.length cP2) (.slice aU (zar ps 32).length cU))) (fun _ nn _=>ps.length - (intOf nn).toNat)
    case atStart=>exact ⟨0,by omega,rfl,KST.o,by rw[zwu _ _ _ _ _ hal];exact I⟩
    case round =>
     obtain ⟨n,hn,rfl,rfl,J⟩:=hrel;obtain ⟨kb0,kb1⟩:=yaei (us:=zar ps 32) (ps:=ps) (ws:=ws) (n:=n) (KB.o i);obtain ⟨y1,y2,y3,y4⟩:=zad J.o.box
     by_cases hlt2:n < ps.length
     ·by_cases hk:0 < zfj (zar ps 32) zs ps ws i n
      ·obtain ⟨_,ao',cap',e',_,hc⟩:=J.o.pend.rd
       cases e'
       obtain ⟨bp,op,rfl,_,_⟩:=hc (by omega)
       obtain ⟨rfl,_,_,_,_,hcl⟩:=J.o.pend.at
       have e0:=(hcl (n*2) (by omega)).trans (zgx _ n hlt2);have e1:=(hcl (n*2+1) (by omega)).trans (zjj _ n hlt2);clear hc hcl;have hpl:=J.o.plc;rw[zdd] at hpl;obtain ⟨_,au',cu',eu',_,hcu⟩:=hpl.rd
       cases eu'
       obtain ⟨bu,ou,rfl,_,_⟩:=hcu (by omega)
       obtain ⟨rfl,_,_,_,_,hclu⟩:=hpl.at
       have hil:i < (zcr ps 32).length:=by rw[zdd];exact hlt
       have u0:=(hclu i (by omega)).trans (zay _ i hil);rw[zvd] at u0;clear hpl hcu hclu;obtain ⟨_,aw',cw',ew',_,hcw⟩:=J.o.words.rd
       cases ew'
       obtain ⟨bw,ow,rfl,_,_⟩:=hcw (by omega)
       obtain ⟨rfl,_,_,_,hfrw,hclw⟩:=J.o.words.at
       have hj:(zar ps 32)[i]?.getD 0 < (zzq (zar ps 32) zs ps ws i n).length:=by rw[yadv];exact hal
       have g0:=hfrw ((zar ps 32)[i]?.getD 0);have g1:=(hclw ((zar ps 32)[i]?.getD 0) (by omega)).trans (zay _ _ hj);clear hcw hfrw hclw
       have hlt2':(n:Int) < (ps.length:Int):=by omega
       have hlt':(i:Int) < ((zar ps 32).length:Int):=by omega
       have n0:(0:Int)≤(n:Int):=by omega
       have i0:(0:Int)≤(i:Int):=by omega
       have a0:(0:Int)≤(((zar ps 32)[i]?.getD 0:Nat):Int):=by omega
       have a1:(((zar ps 32)[i]?.getD 0:Nat):Int) < (ws.length:Int):=by omega
       have MH:=zaa (fun h=>yacu (zs:=zs) (ws:=ws) hlt2 hk h);have MM:=zaa (fun h=>zza (us:=zar ps 32) (zs:=zs) (ws:=ws) (i:=i) hlt2 h);generalize zfj (zar ps 32) zs ps ws i n=mk at *;generalize ha:(zar ps 32)[i]?.getD 0=a at *;clear ha
       by_cases c:ps[n].at_=(a:Int)
       ·obtain ⟨m1,m2⟩:=MH.o c;have M1:=zaa m1;have M2:=zaa m2
        have c':(ps[n].at_ == (a:Int))=true:=by simpa using c
        clear c m1 m2 MH MM;go_wp2
        go_quiet (fail)
        go_wp2
        go_region
        all_goals
         go_wp2
         go_roundw
         case rel =>
          refine ⟨n+1,by omega,by go_num,by rw[M2.o],?_⟩;rw[M1.o]
          first | exact ((J.o.drewN _).store (Nat.le_refl _) _ _).drew | exact ((J.o.drewN _).drew).store (Nat.le_refl _) _ _
         case measure=>simp[intOf];omega
       ·obtain ⟨m1,m2⟩:=MM.o c;have M1:=zaa m1;have M2:=zaa m2
        have c':(ps[n].at_ == (a:Int))=false:=by simpa using c
        clear c m1 m2 MH MM;go_wp2
        go_quiet (fail)
        go_wp2
        go_roundw
        case rel =>
         refine ⟨n+1,by omega,by go_num,by rw[M2.o],?_⟩;rw[M1.o];exact J.o.drewN _
        case measure=>simp[intOf];omega
      ·have E:=zaa (zny (by omega) (.inr hk));have hk':¬ (0:Int) < zfj (zar ps 32) zs ps ws i n:=hk
       have hkd:decide ((0:Int) < zfj (zar ps 32) zs ps ws i n)=false:=by simpa using hk
       clear hk;go_wp2
       go_roundw
       case rel=>exact ⟨i+1,by omega,by go_num,E.o ▸ J⟩
       case measure=>simp[intOf];omega
     ·have E:=zaa (zny (zs:=zs) (us:=zar ps 32) (ws:=ws) (i:=i) hn (.inl (by omega)));go_wp2
      go_roundw
      case rel=>exact ⟨i+1,by omega,by go_num,E.o ▸ J⟩
      case measure=>simp[intOf];omega
   ·have hl:i % zs.length < zs.length:=Nat.mod_lt _ (by omega)
    have KST:Hid (Value.int IntKind.i64 zs[i % zs.length]=.int .i64 (zfj (zar ps 32) zs ps ws i 0)):=by
     show _=_
     rw[zry];unfold zck;rw[if_neg h0,List.getElem?_eq_getElem hl,Option.getD_some]
    obtain ⟨bz,oz,rfl,hbz,hcz⟩:=HZ.o (by omega);have hck:=(I.o.below.cell (p:=⟨bz,oz+i % zs.length,none⟩) hbz).trans (hcz (i % zs.length) hl)
    have h0':(0:Int) < (zs.length:Int):=by omega
    have m0:(0:Int)≤(i:Int) % (zs.length:Int):=Int.emod_nonneg _ (by omega);have m1:(i:Int) % (zs.length:Int) < (zs.length:Int):=Int.emod_lt_of_pos _ h0'
    have mt:((i:Int) % (zs.length:Int)).toNat=i % zs.length:=by rw[← Int.natCast_emod,Int.toNat_natCast]
    have hck2:wr.cell? ⟨bz,oz+((i:Int) % (zs.length:Int)).toNat,none⟩=some (.int .i64 zs[i % zs.length]):=by rw[mt];exact hck
    clear h0 hcz mt;go_wp2
    go_loopw [7,8] (fun kk nn wr=>∃ n:Nat,n≤ps.length∧nn=.int .i64 n∧kk=.int .i64 (zfj (zar ps 32) zs ps ws i n)∧Hid (CrIE w wr ws.length (zzq (zar ps 32) zs ps ws i n) ps (zcr ps 32) (w.heap.size+1+1) w2.heap.size w3.heap.size (.slice aW2 ws.length cW2) (.slice aP2 ps.length cP2) (.slice aU (zar ps 32).length cU))) (fun _ nn _=>ps.length - (intOf nn).toNat)
    case atStart=>exact ⟨0,by omega,rfl,KST.o,by rw[zwu _ _ _ _ _ hal];exact I⟩
    case round =>
     obtain ⟨n,hn,rfl,rfl,J⟩:=hrel;obtain ⟨kb0,kb1⟩:=yaei (us:=zar ps 32) (ps:=ps) (ws:=ws) (n:=n) (KB.o i);obtain ⟨y1,y2,y3,y4⟩:=zad J.o.box
     by_cases hlt2:n < ps.length
     ·by_cases hk:0 < zfj (zar ps 32) zs ps ws i n
      ·obtain ⟨_,ao',cap',e',_,hc⟩:=J.o.pend.rd
       cases e'
       obtain ⟨bp,op,rfl,_,_⟩:=hc (by omega)
       obtain ⟨rfl,_,_,_,_,hcl⟩:=J.o.pend.at
       have e0:=(hcl (n*2) (by omega)).trans (zgx _ n hlt2);have e1:=(hcl (n*2+1) (by omega)).trans (zjj _ n hlt2);clear hc hcl;have hpl:=J.o.plc;rw[zdd] at hpl;obtain ⟨_,au',cu',eu',_,hcu⟩:=hpl.rd
       cases eu'
       obtain ⟨bu,ou,rfl,_,_⟩:=hcu (by omega)
       obtain ⟨rfl,_,_,_,_,hclu⟩:=hpl.at
       have hil:i < (zcr ps 32).length:=by rw[zdd];exact hlt
       have u0:=(hclu i (by omega)).trans (zay _ i hil);rw[zvd] at u0;clear hpl hcu hclu;obtain ⟨_,aw',cw',ew',_,hcw⟩:=J.o.words.rd
       cases ew'
       obtain ⟨bw,ow,rfl,_,_⟩:=hcw (by omega)
       obtain ⟨rfl,_,_,_,hfrw,hclw⟩:=J.o.words.at
       have hj:(zar ps 32)[i]?.getD 0 < (zzq (zar ps 32) zs ps ws i n).length:=by rw[yadv];exact hal
       have g0:=hfrw ((zar ps 32)[i]?.getD 0);have g1:=(hclw ((zar ps 32)[i]?.getD 0) (by omega)).trans (zay _ _ hj);clear hcw hfrw hclw
       have hlt2':(n:Int) < (ps.length:Int):=by omega
       have hlt':(i:Int) < ((zar ps 32).length:Int):=by omega
       have n0:(0:Int)≤(n:Int):=by omega
       have i0:(0:Int)≤(i:Int):=by omega
       have a0:(0:Int)≤(((zar ps 32)[i]?.getD 0:Nat):Int):=by omega
       have a1:(((zar ps 32)[i]?.getD 0:Nat):Int) < (ws.length:Int):=by omega
       have MH:=zaa (fun h=>yacu (zs:=zs) (ws:=ws) hlt2 hk h);have MM:=zaa (fun h=>zza (us:=zar ps 32) (zs:=zs) (ws:=ws) (i:=i) hlt2 h);generalize zfj (zar ps 32) zs ps ws i n=mk at *;generalize ha:(zar ps 32)[i]?.getD 0=a at *;clear ha
       by_cases c:ps[n].at_=(a:Int)
       ·obtain ⟨m1,m2⟩:=MH.o c;have M1:=zaa m1;have M2:=zaa m2
        have c':(ps[n].at_ == (a:Int))=true:=by simpa using c
        clear c m1 m2 MH MM;go_wp2
        go_quiet (fail)
        go_wp2
        go_region
        all_goals
         go_wp2
         go_roundw
         case rel =>
          refine ⟨n+1,by omega,by go_num,by rw[M2.o],?_⟩;rw[M1.o]
          first | exact ((J.o.drewN _).store (Nat.le_refl _) _ _).drew | exact ((J.o.drewN _).drew).store (Nat.le_refl _) _ _
         case measure=>simp[intOf];omega
       ·obtain ⟨m1,m2⟩:=MM.o c;have M1:=zaa m1;have M2:=zaa m2
        have c':(ps[n].at_ == (a:Int))=false:=by simpa using c
        clear c m1 m2 MH MM;go_wp2
        go_quiet (fail)
        go_wp2
        go_roundw
        case rel =>
         refine ⟨n+1,by omega,by go_num,by rw[M2.o],?_⟩;rw[M1.o];exact J.o.drewN _
        case measure=>simp[intOf];omega
      ·have E:=zaa (zny (by omega) (.inr hk));have hk':¬ (0:Int) < zfj (zar ps 32) zs ps ws i n:=hk
       have hkd:decide ((0:Int) < zfj (zar ps 32) zs ps ws i n)=false:=by simpa using hk
       clear hk;go_wp2
       go_roundw
       case rel=>exact ⟨i+1,by omega,by go_num,E.o ▸ J⟩
       case measure=>simp[intOf];omega
     ·have E:=zaa (zny (zs:=zs) (us:=zar ps 32) (ws:=ws) (i:=i) hn (.inl (by omega)));go_wp2
      go_roundw
      case rel=>exact ⟨i+1,by omega,by go_num,E.o ▸ J⟩
      case measure=>simp[intOf];omega
  ·have e:i=(zar ps 32).length:=by omega
   subst e;obtain ⟨y1,y2,y3,y4⟩:=zad I.o.box;obtain ⟨t1,t2,t3,t4⟩:=zad I.o.res;obtain ⟨z1,z2,z3,z4⟩:=zad (zal (o:=.cells #[] 150) I.o.box);obtain ⟨z5,z6,z7,z8⟩:=zad (zal (o:=.cells #[] 150) I.o.res);have hsz:=I.o.size
   have ho:(wr.alloc (.cells #[] 150)).ownsRow (w.heap.size+2) 150 2 (.slice (some ⟨wr.heap.size,0,none⟩) 0 0) 0 []:=by
    simpa using World.ownsRow_lit (base:=w.heap.size+2) (e:=150) (size:=2) wr #[] 0 (by omega) (by simp) rfl
   have HO:=zaa ho;clear ho;go_wp2;refine bodyPost_ret (v:=.agg #[.slice aW2 ws.length cW2,.slice (some ⟨wr.heap.size,0,none⟩) 0 0]) (by simp[results,Tryz.results67,go_sem,z5,z6]) rfl ?_;refine ⟨_,rfl,⟨_,_,rfl,Row.z ?_,?_⟩,(((I.o.below.alloc (by omega) _).setCell (by simp only;omega) _).setCell (by simp only;omega) _).setCell (by simp only;omega) _⟩
   ·rw[zhm];refine ((I.o.words.alloc (by omega) (.cells #[] 150)).same fun b h1 h2=>?_).wide (by omega) (by simp;omega);rw[Below.heap_setCell _ _ _ _ (by simp only;omega),Below.heap_setCell _ _ _ _ (by simp only;omega),Below.heap_setCell _ _ _ _ (by simp only;omega)]
   ·refine ((zai HO.o).same fun b h1 h2=>?_).wide (by omega) (by simp);rw[Below.heap_setCell _ _ _ _ (by simp only;omega),Below.heap_setCell _ _ _ _ (by simp only;omega),Below.heap_setCell _ _ _ _ (by simp only;omega)]
def rdL (ws:List Int) (ps:List St) (m:Nat):List Se:=(List.range m).map (fun i=>⟨ldW ws ps (9+2*i),ldW ws ps (9+2*i+1)⟩)
theorem zls (ws:List Int) (ps:List St) (m:Nat):(rdL ws ps m).length=m:=by simp[rdL]
theorem yact (ws:List Int) (ps:List St) (m:Nat):rdL ws ps (m+1)=rdL ws ps m ++ [⟨ldW ws ps (9+2*m),ldW ws ps (9+2*m+1)⟩]:=by
 unfold rdL;rw[List.range_succ,List.map_append];rfl
theorem yato (w1:World) (x y:Int):Rd (w1.alloc (.cells #[.int .i64 x,.int .i64 y] 156)) 2 (.slice (some ⟨w1.heap.size,0,none⟩) 1 1) 1 (ses [⟨x,y⟩]):=by
 refine ⟨rfl,_,_,rfl,⟨Nat.le_refl _,fun e=>by cases e⟩,fun _=>⟨w1.heap.size,0,rfl,by simp,fun j hj=>?_⟩⟩;obtain ⟨e0,e1,_,_⟩:=zad (zag (w:=w1) (o:=.cells #[.int .i64 x,.int .i64 y] 156) rfl)
 rcases (show j=0∨j=1 by omega) with rfl | rfl
 ·exact e0
 ·exact e1
theorem yaea (l:List Se):∀ u∈ses l,u.oneCell'=true:=by
 intro u hu;simp only[ses,List.mem_flatMap] at hu;obtain ⟨m,_,hm⟩:=hu;simp[Se.cells] at hm
 rcases hm with rfl | rfl <;> rfl
theorem yaby (l l':List Se):ses (l ++ l')=ses l ++ ses l':=by simp[ses]
structure ReI (W w:World) (vL:Value) (ls:List Se):Prop where
 l:w.ownsRow W.heap.size 156 2 vL ls.length (ses ls)
 b:Below W.heap.size W w
theorem ReI.z {W w:World} {vL:Value} {ls:List Se} (h:ReI W w vL ls):W.heap.size≤w.heap.size:=h.b.size
theorem ReI.below {W w w':World} {vL:Value} {ls:List Se} (h:ReI W w vL ls) (hb:Below w.heap.size w w'):ReI W w' vL ls :=
 ⟨((zai h.l).below hb (Nat.le_refl _)).1,zab h.b hb h.z⟩
theorem ReI.grow {W w w':World} {vL v':Value} {ls:List Se} (h:ReI W w vL ls) (ms:List Se) (ho:w'.ownsRow W.heap.size 156 2 v' (ls.length+ms.length) (ses ls ++ ses ms)) (hg:w.grownBy w' vL.ownBlock):ReI W w' v' (ls ++ ms) :=
 ⟨by rw[yaby,List.length_append];exact ho,h.b.grown hg h.z (fun q hq=>(h.l.lt q hq).1)⟩
theorem zzw (v:Value) (ws:List Int) (ps:List St) (N:Nat) (w:World) (h:RdPm w v ws ps) (hw:ws.length≤1048576) (hp:ps.length≤1048576) (h64:64 < ws.length) (hN:ldW ws ps 8=(N:Int)) (hN2:N≤16) :
  Calls Tryz.prog 82 #[v] w fun e w'=>∃ v',e=.returned v'∧Row w' 156 2 w.heap.size w'.heap.size v' (rdL ws ps N).length (ses (rdL ws ps N))∧Below w.heap.size w w':=by
 have HR:=zaa h;obtain ⟨vW,vP,rfl,h1,h2⟩:=h;obtain ⟨aW,cW,rfl,_⟩:=h1.shape;obtain ⟨aP,cP,rfl,_⟩:=h2.shape;clear h1 h2;have hb0:=zaa (show Below w.heap.size w (w.alloc (.cells #[.slice aW ws.length cW,.slice aP ps.length cP] 40)) from (Below.refl _ _).alloc (Nat.le_refl _) _);have LC:=zaa (fun (v:Value) (w:World) (h:RdPm w v ws ps)=>zid v ws ps w h hw hp (by omega));rw[hN] at LC
 have LD:Hid (∀ (k:Nat) (x:Int),x=(k:Int)→k < 64→∀ (v:Value) (w:World),RdPm w v ws ps→Calls Tryz.prog 110 #[v,.int .i64 x] w fun e w'=>e=.returned (.int .i64 (ldW ws ps k))∧Below w.heap.size w w'):=fun k x hx hk v w h=>by
  subst hx;rw[zwx (show k < ws.length by omega)];exact zji v ws ps k w h hw hp (by omega)
 obtain ⟨W,hW⟩:∃ W,W=w.alloc (.cells #[.slice aW ws.length cW,.slice aP ps.length cP] 40):=⟨_,rfl⟩
 have START:Hid (ReI W (W.alloc (.cells #[] 156)) (.slice (some ⟨W.heap.size,0,none⟩) 0 0) []) :=
  ⟨(zph W 156 2).1,(Below.refl _ _).alloc (Nat.le_refl _) _⟩
 have CW:Hid (W.heap[w.heap.size]?=some (.cells #[.slice aW ws.length cW,.slice aP ps.length cP] 40 (0,0))):=by rw[hW];exact zag rfl
 have RW:Hid (RdPm W (.agg #[.slice aW ws.length cW,.slice aP ps.length cP]) ws ps):=by rw[hW];exact HR.o.below hb0.o
 have hWz:W.heap.size=w.heap.size+1:=by rw[hW];simp
 have hWz':w.heap.size < W.heap.size:=by omega
 have BW:Hid (Below w.heap.size w W):=by rw[hW];exact hb0.o
 clear hb0 HR;go_enter Tryz.func82,Tryz.ntmps82;go_wp2
 go_loopw [3,4,5] (fun vL i _ wr=>∃ m:Nat,m≤N∧i=.int .i64 m∧Hid (ReI W wr vL (rdL ws ps m))) (fun _ i _ _=>N - (intOf i).toNat)
 case atStart =>
  refine ⟨0,by omega,rfl,?_⟩;have:=START;rw[hW] at this ⊢;simpa[rdL] using this
 case round =>
  obtain ⟨m,hm,rfl,J⟩:=hrel;obtain ⟨x1,x2,_,_⟩:=zad ((J.o.b.block w.heap.size hWz').trans CW.o);have R0:=zaa (RW.o.below J.o.b)
  have m0:(0:Int)≤(m:Int):=by omega
  clear START;go_wp2_with fail;refine (LC.o _ _ R0.o).mono ?_;rintro e w1 ⟨rfl,hb1⟩;have J1:=zaa (J.o.below hb1);have R1:=zaa (R0.o.below hb1);clear hb1 J R0 x1 x2
  by_cases hlt:m < N
  ·obtain ⟨x1,x2,_,_⟩:=zad ((J1.o.b.block w.heap.size hWz').trans CW.o)
   have m1:(m:Int) < (N:Int):=by omega
   have wp1:IntKind.i64.wrap (9+2*(m:Int)+1)=9+2*(m:Int)+1:=by rw[IntKind.wrap_i64];omega
   have LA:=zaa (LD.o (9+2*m) (9+2*(m:Int)) (by omega) (by omega));have LB:=zaa (LD.o (9+2*m+1) (9+2*(m:Int)+1) (by omega) (by omega));have EM:=zaa (yact ws ps m);have l1:=zls ws ps m
   have l2:(rdL ws ps m).length≤16:=by omega
   clear l1;generalize ldW ws ps (9+2*m)=x at *;generalize ldW ws ps (9+2*m+1)=y at *;go_wp2_with fail
   go_region_held3 (fun w'=>w'.cell? ⟨w.heap.size,0,none⟩=some (.slice aW ws.length cW)∧w'.cell? ⟨w.heap.size,1,none⟩=some (.slice aP ps.length cP)) (first | exact ⟨x1,x2⟩ | exact ⟨s0,s1⟩ | exact ⟨r0,r1⟩ | exact ⟨t0,t1⟩ | exact ⟨q0,q1⟩)
    (first
     | (go_at_call 110;first
       | (have J2':=J2.o;refine (LB.o _ _ R2.o).mono ?_;rintro e w3 ⟨rfl,hb3⟩;have J3:=zaa (J2'.below hb3);clear J2' hb3;obtain ⟨t0,t1,_,_⟩:=zad ((J3.o.b.block w.heap.size hWz').trans CW.o);have J4:=zaa (J3.o.below ((Below.refl _ _).alloc (Nat.le_refl _) (.cells #[.int .i64 x,.int .i64 y] 156)));obtain ⟨r0,r1,_,_⟩:=zad ((J4.o.b.block w.heap.size hWz').trans CW.o);have HRD:=zaa (yato w3 x y);have hz4:=J4.o.z)
       | (refine (LA.o _ _ (R1.o.below ((Below.refl _ _).drew))).mono ?_;rintro e w2 ⟨rfl,hb2⟩;have hb2':=zko hb2;have J2:=zaa (J1.o.below hb2');have R2:=zaa (R1.o.below hb2');clear hb2 hb2';obtain ⟨q0,q1,_,_⟩:=zad ((J2.o.b.block w.heap.size hWz').trans CW.o)))
     | (refine zbx rfl (.tmp 16) (.tmp 25) 122 rfl W.heap.size 156 (.agg #[.int .i64 0,.int .i64 0]) 2 16 Tryz.underlying122 yaqw rfl (by decide) _ _ _ rfl J4.o.l _ 1 _ rfl HRD.o (yaea _) (by simp[maxLen];omega) (by omega) hz4 ?_;intro vN wN hownN hgrN;have G:=zaa (J4.o.grow [⟨x,y⟩] hownN hgrN);obtain ⟨s0,s1,_,_⟩:=zad ((G.o.b.block w.heap.size hWz').trans CW.o);clear hownN hgrN))
   all_goals
    rw[← EM.o] at G;clear J1 J2 J3 J4 R1 R2 q0 q1 r0 r1 t0 t1 x1 x2 HRD;go_wp2
    go_roundw
    case rel=>exact ⟨m+1,by omega,by go_num,G⟩
    case measure=>simp[intOf];omega
  ·obtain rfl:m=N:=by omega
   obtain ⟨aL,cL,hvL⟩:=RdE.shapeN (zai J1.o.l).rd rfl;subst hvL;go_wp2;go_ret;exact ⟨_,rfl,(zai J1.o.l).wide (by omega) (Nat.le_refl _),zab BW.o (J1.o.b) (by omega)⟩
theorem zxg (a:Int):∀ (ps:List St) (d:Int),0≤d→(∀ p∈ps,0≤p.val)→0≤ziv a d ps
 | [],d,h,_=>h
 | p :: ps,d,h,hp=>by
  show 0≤ziv a (if p.at_=a then p.val else d) ps
  refine zxg a ps _ ?_ (fun q hq=>hp q (List.mem_cons_of_mem _ hq))
  split
  ·exact hp p List.mem_cons_self
  ·exact h
theorem yakc {ws:List Int} {ps:List St} (h:pmB ws ps=true) (k:Nat):0≤ldW ws ps k:=by
 refine zxg _ _ _ ?_ (fun p hp=>?_)
 ·by_cases hk:k < ws.length
  ·simpa[hk] using (zlw (ztk h k hk)).1
  ·simp[hk]
 ·obtain ⟨i,hi,rfl⟩:=List.getElem_of_mem hp;exact (zlw (zhj h i hi).2).1
def rpU (ws:List Int) (ps:List St):List Se:=rdL ws ps (ldW ws ps 8).toNat
def rpC (ws:List Int) (ps:List St):Int:=if pmB ws ps=false then 1 else if 16 < ldW ws ps 8 then 3 else if ldW ws ps 8=0 then 0 else if upsB (rpU ws ps)=true then 0 else 3
def rpL (ws:List Int) (ps:List St):List Mi:=if rpC ws ps=0 then (if ldW ws ps 8=0 then [] else zhd (zwm (rpU ws ps))) else []
theorem zgv (ws:List Int) (ps:List St):(pmB ws ps=false∧rpC ws ps=1∧rpL ws ps=[])∨(pmB ws ps=true∧∃ N:Nat,ldW ws ps 8=(N:Int) ∧
  ((16 < N∧rpC ws ps=3∧rpL ws ps=[])∨(N=0∧rpC ws ps=0∧rpL ws ps=[])∨(0 < N∧N≤16∧upsB (rdL ws ps N)=false∧rpC ws ps=3∧rpL ws ps=[])∨(0 < N∧N≤16∧upsB (rdL ws ps N)=true∧rpC ws ps=0∧rpL ws ps=zhd (zwm (rdL ws ps N))))):=by
 by_cases c1:pmB ws ps=true
 ·have hp:=yakc c1 8;refine .inr ⟨c1,(ldW ws ps 8).toNat,by omega,?_⟩
  by_cases c2:16 < ldW ws ps 8
  ·have e:rpC ws ps=3:=by unfold rpC;rw[if_neg (by rw[c1];simp),if_pos c2]
   exact .inl ⟨by omega,e,by unfold rpL;rw[e];rfl⟩
  ·by_cases c3:ldW ws ps 8=0
   ·have e:rpC ws ps=0:=by unfold rpC;rw[if_neg (by rw[c1];simp),if_neg c2,if_pos c3]
    exact .inr (.inl ⟨by omega,e,by unfold rpL;rw[e,if_pos rfl,if_pos c3]⟩)
   ·by_cases c4:upsB (rpU ws ps)=true
    ·have e:rpC ws ps=0:=by unfold rpC;rw[if_neg (by rw[c1];simp),if_neg c2,if_neg c3,if_pos c4]
     exact .inr (.inr (.inr ⟨by omega,by omega,c4,e,by unfold rpL;rw[e,if_pos rfl,if_neg c3];rfl⟩))
    ·have c4':upsB (rpU ws ps)=false:=by simpa using c4
     have e:rpC ws ps=3:=by unfold rpC;rw[if_neg (by rw[c1];simp),if_neg c2,if_neg c3,c4'];rfl
     exact .inr (.inr (.inl ⟨by omega,by omega,c4',e,by unfold rpL;rw[e];rfl⟩))
 ·have c:pmB ws ps=false:=by simpa using c1
  have e:rpC ws ps=1:=by unfold rpC;rw[if_pos c]
  exact .inl ⟨c,e,by unfold rpL;rw[e];rfl⟩
theorem zgc (v:Value) (ws:List Int) (ps:List St) (w:World) (h:RdPm w v ws ps) (hw:ws.length≤1048576) (hp:ps.length≤1048576) :
  Calls Tryz.prog 44 #[v] w fun e w'=>∃ v',e=.returned (.tuple #[v',.int .i64 (rpC ws ps)])∧Row w' 98 3 w.heap.size w'.heap.size v' (rpL ws ps).length (mis (rpL ws ps))∧Below w.heap.size w w':=by
 have HR:=zaa h;obtain ⟨vW,vP,rfl,h1,h2⟩:=h;obtain ⟨aW,cW,rfl,_⟩:=h1.shape;obtain ⟨aP,cP,rfl,_⟩:=h2.shape;clear h1 h2;have hb0:Below w.heap.size w (w.alloc (.cells #[.slice aW ws.length cW,.slice aP ps.length cP] 40)):=(Below.refl _ _).alloc (Nat.le_refl _) _
 have RE:Hid (∀ w1:World,Below w.heap.size w w1→Row (w1.alloc (.cells #[] 98)) 98 3 w.heap.size (w1.alloc (.cells #[] 98)).heap.size (.slice (some ⟨w1.heap.size,0,none⟩) 0 0) 0 []∧Below w.heap.size w (w1.alloc (.cells #[] 98))) :=
  fun w1 hb=>⟨(zph w1 98 3).wide hb.size (Nat.le_refl _),hb.alloc hb.size _⟩
 rcases zgv ws ps with ⟨c1,e1,e2⟩ | ⟨c1,N,hN,hc⟩
 ·rw[e1,e2];have C:=zaa c1;clear c1 e1 e2;go_enter Tryz.func44,Tryz.ntmps44;go_wp2_with fail;refine (zde _ ws ps _ (HR.o.below hb0) hw hp).mono ?_;rw[C.o];rintro e w1 ⟨rfl,hb1⟩;have R1:=zaa (RE.o w1 (zab hb0 hb1 (by simp)));go_wp2;go_ret2;exact ⟨_,rfl,R1.o.1,R1.o.2⟩
 ·have C:=zaa c1;have hl:=zyt c1;have LC:=zaa (fun (v:Value) (w:World) (h:RdPm w v ws ps)=>zid v ws ps w h hw hp (by omega));rw[hN] at LC;have LR:=zaa (fun (h16:N≤16) (v:Value) (w:World) (h:RdPm w v ws ps)=>zzw v ws ps N w h hw hp (by omega) hN h16);have LU:=zaa (zls ws ps N);generalize rdL ws ps N=us at *;clear c1 hl hN
  rcases hc with ⟨n1,e1,e2⟩ | ⟨rfl,e1,e2⟩ | ⟨n1,n2,c3,e1,e2⟩ | ⟨n1,n2,c3,e1,e2⟩
  ·rw[e1,e2];clear e1 e2 LR;go_enter Tryz.func44,Tryz.ntmps44;go_wp2_with fail;refine (zde _ ws ps _ (HR.o.below hb0) hw hp).mono ?_;rw[C.o];rintro e w1 ⟨rfl,hb1⟩;obtain ⟨x1,x2,_,_⟩:=zad ((hb1.block w.heap.size (by simp)).trans (zag rfl));have B1:=zaa (zab hb0 hb1 (by simp));clear hb1 hb0;go_wp2_with fail;refine (LC.o _ _ (HR.o.below B1.o)).mono ?_;rintro e w2 ⟨rfl,hb2⟩;have R1:=zaa (RE.o w2 (zab B1.o hb2 B1.o.size));clear hb2;go_wp2;go_ret2;exact ⟨_,rfl,R1.o.1,R1.o.2⟩
  ·rw[e1,e2];clear e1 e2 LR;go_enter Tryz.func44,Tryz.ntmps44;go_wp2_with fail;refine (zde _ ws ps _ (HR.o.below hb0) hw hp).mono ?_;rw[C.o];rintro e w1 ⟨rfl,hb1⟩;obtain ⟨x1,x2,_,_⟩:=zad ((hb1.block w.heap.size (by simp)).trans (zag rfl));have B1:=zaa (zab hb0 hb1 (by simp));clear hb1 hb0;go_wp2_with fail;refine (LC.o _ _ (HR.o.below B1.o)).mono ?_;rintro e w2 ⟨rfl,hb2⟩;have R1:=zaa (RE.o w2 (zab B1.o hb2 B1.o.size));clear hb2;go_wp2;go_ret2;exact ⟨_,rfl,R1.o.1,R1.o.2⟩
  all_goals
   rw[e1,e2];have C3:=zaa c3
   have g0:((N:Int) == 0)=false:=by rw[beq_eq_false_iff_ne];omega
   clear e1 e2 c3;go_enter Tryz.func44,Tryz.ntmps44;go_wp2_with fail;refine (zde _ ws ps _ (HR.o.below hb0) hw hp).mono ?_;rw[C.o];rintro e w1 ⟨rfl,hb1⟩;obtain ⟨x1,x2,_,_⟩:=zad ((hb1.block w.heap.size (by simp)).trans (zag rfl));have V1:=zaa ((hb1.block w.heap.size (by simp)).trans (zag rfl));have hz1:=hb1.size;simp only[World.size_alloc] at hz1;have B1:=zaa (zab hb0 hb1 (by simp));clear hb1 hb0;go_wp2_with fail;refine (LC.o _ _ (HR.o.below B1.o)).mono ?_;rintro e w2 ⟨rfl,hb2⟩;have hz2:=hb2.size;have B2:=zaa (zab B1.o hb2 B1.o.size);obtain ⟨y1,y2,_,_⟩:=zad ((hb2.block w.heap.size (by omega)).trans V1.o);clear hb2 B1 x1 x2;go_wp2_with fail;refine (LR.o n2 _ _ (HR.o.below B2.o)).mono ?_;rintro e w3 ⟨v3,rfl,hr3,hb3⟩;have R3:=zaa (show RdE w3 v3 us from hr3.rd);have B3:=zaa (zab B2.o hb3 B2.o.size);obtain ⟨aU,cU,rfl⟩:=RdE.shapeN hr3.rd LU.o;clear hr3 hb3 B2 y1 y2;go_wp2_with fail;refine (zrq _ us _ R3.o (by have:=LU.o;omega)).mono ?_;rw[C3.o];rintro e w4 ⟨rfl,hw4⟩;subst w4
   first
    | (have R4:=zaa (RE.o w3 B3.o);go_wp2;go_ret2;exact ⟨_,rfl,R4.o.1,R4.o.2⟩)
    | (go_wp2_with fail;refine (zwj _ us _ R3.o (by have:=LU.o;omega) (fun k h=>by have:=(of_decide_eq_true C3.o:∀ k (h:k < us.length),(48≤us[k].at_∧us[k].at_ < 336)∧0≤us[k].val∧us[k].val < 1099511627776) k h;omega)).mono ?_;rintro e w5 ⟨v5,rfl,hr5,hb5⟩;have R5:=zaa (hr5.wide B3.o.size (Nat.le_refl _));have B5:=zaa (zab B3.o hb5 B3.o.size);obtain ⟨aL,cL,rfl⟩:=RdM.form hr5.rd rfl;clear hr5 hb5;go_wp2;go_ret2;exact ⟨_,rfl,R5.o,B5.o⟩)
end Go.Proofs.YtahiphgmhndgaaaGreatDoor
