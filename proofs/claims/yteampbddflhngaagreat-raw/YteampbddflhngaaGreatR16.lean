import Derived.Test.YteampbddflhngaaGreatR13
import Derived.Test.YteampbddflhngaaGreatR15
namespace Go.Proofs.YteampbddflhngaaGreat
open List renaming length→List.j,take→List.G,toArray→List.F,foldl→List.H
open _root_.Array renaming size→Array.q,toList→Array.v,foldl→Array.H
open _root_.ByteArray renaming size→ByteArray.q,toList→ByteArray.v
open Go.RowKit.Below renaming size→Go.RowKit.Below.q,setCell→Go.RowKit.Below.x,mono→Go.RowKit.Below.y,trans→Go.RowKit.Below.A,alloc→Go.RowKit.Below.C
open Go.TypeInfo renaming size→Go.TypeInfo.q
open Go.World.grownBy renaming size→Go.World.grownBy.q
open Go.RowKit.Hid renaming out→Go.RowKit.Hid.l
open Go.Shut renaming out→Go.Shut.l
open Go.World renaming heap→Go.World.o,setCell→Go.World.x,cell?→Go.World.p,alloc→Go.World.C,ownsRow→Go.World.r
open Go.Value renaming slice→Go.Value.k,string→Go.Value.d,bool→Go.Value.i,cells→Go.Value.E,ownBlock→Go.Value.m,pointer→Go.Value.u
open Go.TypeDesc renaming slice→Go.TypeDesc.k,string→Go.TypeDesc.d,bool→Go.TypeDesc.i,pointer→Go.TypeDesc.u
open Go.Calls renaming mono→Go.Calls.y
open Eq renaming trans→Eq.A,symm→Eq.z
open Iff renaming trans→Iff.A,symm→Iff.z
open Go.Obj renaming cells→Go.Obj.E
open Option renaming toList→Option.v,isSome→Option.I,some→Z,none→Y
open Int renaming toNat→Int.D
open UInt8 renaming toNat→UInt8.D
open Ne renaming symm→Ne.z
open Go.RowKit renaming Hid→X
open Go renaming World→U,Value→O
set_option linter.all false
set_option maxRecDepth 100000
set_option maxHeartbeats 8000000
open Go.RowKit
section
open Go.Proofs.Tryz
variable {B:yB}{lo:Nat}
def J3{t:ByteArray}(a:qv B)(c:0<t.q):gS B t=true↔yq B t≠ByteArray.empty:=by
 unfold gS yq;cases zT t;simp only[Bool.not_false,Bool.true_or,true_iff,gR,if_false];rintro rfl;exact zB c θ;simp only[nT,p8,if_true];rcases b:Tz B t with _|x;simp;simp[a t x b]
def MN{y z:ByteArray}(c:qv B)(b:z≠ByteArray.empty):qv (B++[(y,z)]):=by
 intro v x h;rw[tZ] at h;rcases a:Tz B v with _|u;rw[a] at h;simp only[Option.none_or,Tz] at h;split at h;cases h;exact b;cases h;rw[a] at h;simp only[Option.some_or,zt] at h;rw[←h];exact c v u a
structure CR (lo:Nat) (w:U) (cb:Nat) (B:yB) (v1 v2:O):Prop where
 box:Th w cb #[v1,v2] 270
 fst:w.r lo 9 1 v1 B.j ((xE B).map O.string)
 snd:w.r lo 9 1 v2 B.j ((uk B).map O.string)
 ne:∀b,v1.m=Z b->v2.m≠Z b
def CR.sf{w:U}{c:Nat}{a b:O}(h:CR lo w c B a b):Tn lo w a (xE B):=by unfold Tn;rw[BQ];exact h.fst
def CR.ss{w:U}{c:Nat}{b a:O}(h:CR lo w c B b a):Tn lo w a (uk B):=by unfold Tn;rw[AT];exact h.snd
def CR.u{lo:Nat}{w w':U}{d:Nat}{B:yB}{c b:O}(h:CR lo w d B c b)(a:μ w w'):CR lo w' d B c b:=⟨h.box.u a,zy h.fst a,zy h.snd a,h.ne⟩
def Oz{aH bm bo:Nat}(w:U)(vv lv av rv:O)(B:yB)(args row:κ)(h1:Tn lo w vv (xE B))(h2:Tn aH w lv (uk B))(h3:Tn bm w av args)(h4:Tn bo w rv row)(hl:B.j<=100)(ha:args.j<=100)(hr:row.j=args.j)(ba:∀a∈args,0<a.q)(hF:qv B)(aS:∀x∈row,x≠ByteArray.empty):
  Calls prog 196 #[.agg #[vv,lv],av,rv] w λe V=>∃(n1 c1:Nat) (o1:Option Addr) (n2 c2:Nat) (o2:Option Addr),e=ε (.tuple #[.agg #[.k o1 n1 c1,.k o2 n2 c2],.i (xH B args row).I])/\X (∀B',xH B args row=Z B'->Tn w.o.q V (.k o1 n1 c1) (xE B')/\Tn w.o.q V (.k o2 n2 c2) (uk B')/\B'.j<=B.j+args.j)/\X (μ w V):=by
 obtain⟨i0,hi,aK,aW,aG⟩:=info_parts SL;have aQ:X (∀W,μ w W->Tn lo W vv (xE B)/\Tn aH W lv (uk B)):=λW i=>⟨h1.u i,h2.u i⟩;obtain⟨ao,b0,rfl⟩:=h3.qy;obtain⟨br,bx,rfl⟩:=h4.qy;have HA:X (∀W k (hk:k<args.j),μ w W->∃g,ao=Z ⟨g,0,Y⟩/\g<W.o.q/\W.p ⟨g,k,Y⟩=Z (.d args[k])):=λW k hk i=>(h3.u i).cell k hk;have HR:X (∀W k (hk:k<row.j),μ w W->∃g,br=Z ⟨g,0,Y⟩/\g<W.o.q/\W.p ⟨g,k,Y⟩=Z (.d row[k])):=λW k hk i=>(h4.u i).cell k hk;have e1:(xE B).j<=1000000:=by simp[xE];omega
 have e2:(uk B).j<=1000000:=by simp[uk];omega
 clear h1 h2 h3 h4;go_enter func196,ntmps196;go_upto_region 2 with fail
 have a8:X (μ w (((w.C (.E #[vv,lv] 270)).C (.E #[ν,ν] 270)).C (.E #[ν,ν] 270))):=(zP.C ζ _).C υ _;have ax:=Ah (Ah (Th.new w #[vv,lv] 270) (.E #[ν,ν] 270)) (.E #[ν,ν] 270);have aM:=Ah (Th.newAt (w.C (.E #[vv,lv] 270)) (w.o.q+1) #[ν,ν] 270 ζ) (.E #[ν,ν] 270);have a2:=Th.newAt ((w.C (.E #[vv,lv] 270)).C (.E #[ν,ν] 270)) (w.o.q+1+1) #[ν,ν] 270 ζ;have bp:(((w.C (.E #[vv,lv] 270)).C (.E #[ν,ν] 270)).C (.E #[ν,ν] 270)).o.q=w.o.q+1+1+1:=ζ;generalize bf:((w.C (.E #[vv,lv] 270)).C (.E #[ν,ν] 270)).C (.E #[ν,ν] 270)=wA at *;clear bf;obtain⟨c0,f0⟩:=ax.H;obtain⟨c2,f2⟩:=a2.H;go_upto_region 3 with (first|(at_builtin;refine El rfl (.tmp 14) (.tmp 16) rfl (xE B) vv rfl rfl (aQ.l _ a8.l).1 e1 ?_;intro v1 w1 aw Q;have L:=a2.u Q;obtain⟨d2,g2,af⟩:=L.e;have bs:=Q.q;obtain⟨C,n,rfl⟩:=aw.qy))
 have a4:=ax.lt;have aF:X (Th (w1.x ⟨w.o.q+1+1,0,Y⟩ (.k C (xE B).j n)) w.o.q #[vv,lv] 270):=(ax.u Q).set_ne η 0 _;have aY:X (Th (w1.x ⟨w.o.q+1+1,0,Y⟩ (.k C (xE B).j n)) (w.o.q+1) #[ν,ν] 270):=(aM.u Q).set_ne η 0 _;have ar:X (Th (w1.x ⟨w.o.q+1+1,0,Y⟩ (.k C (xE B).j n)) (w.o.q+1+1) #[.k C (xE B).j n,ν] 270):=L.set 0 _;have a1:X (μ w (w1.x ⟨w.o.q+1+1,0,Y⟩ (.k C (xE B).j n))):=(zQ a8.l Q η).x (p:=⟨w.o.q+1+1,0,Y⟩) (by show w.o.q<=w.o.q+1+1;omega) _;have am:X (Tn wA.o.q (w1.x ⟨w.o.q+1+1,0,Y⟩ (.k C (xE B).j n)) (.k C (xE B).j n) (xE B)):=yQ aw (zd.set w1 (w.o.q+1+1) 0 (.k C (xE B).j n)) (λb i E=>by have:=yU aw i;simp at E;omega);have bv:w1.o.q<=(w1.x ⟨w.o.q+1+1,0,Y⟩ (.k C (xE B).j n)).o.q:=by simp[U.setCell]
 clear c0 f0 c2 f2 d2 g2 af L ax aM a2 Q aw a4;generalize w1.x ⟨w.o.q+1+1,0,Y⟩ (.k C (xE B).j n)=wB at *;obtain⟨c0,f0⟩:=aF.l.H;obtain⟨c2,f2⟩:=ar.l.H;have a4:=aF.l.lt;have af:=ar.l.lt;go_upto_region 4 with (first|(at_builtin;refine El rfl (.tmp 20) (.tmp 22) rfl (uk B) lv rfl rfl (aQ.l _ a1.l).2 e2 ?_;intro v2 F s T;have L:=ar.l.u T;obtain⟨d2,g2,bq⟩:=L.e;have bw:=T.q;obtain⟨K,A,rfl⟩:=s.qy))
 have hL:∀b,w.o.q+1+1≠b->True:=λ_ _=>trivial;have HC:X (CR w.o.q (F.x ⟨w.o.q+1+1,1,Y⟩ (.k K (uk B).j A)) (w.o.q+1+1) B (.k C (xE B).j n) (.k K (uk B).j A)):=⟨L.set 1 _,by rw[←BQ B];exact yQ (yo (zy am.l T) η) (zd.set F (w.o.q+1+1) 1 (.k K (uk B).j A)) (λb i E=>by have:=yU am.l i;simp at E;omega),by rw[←AT B];exact yQ (yo s η) (zd.set F (w.o.q+1+1) 1 (.k K (uk B).j A)) (λb i E=>by have:=yU s i;simp at E;omega),λb i E=>by have:=yG am.l i;have:=yU s E;omega⟩;have aZ:X (Th (F.x ⟨w.o.q+1+1,1,Y⟩ (.k K (uk B).j A)) (w.o.q+1) #[ν,ν] 270):=(aY.l.u T).set_ne η 1 _;have aN:X (μ w (F.x ⟨w.o.q+1+1,1,Y⟩ (.k K (uk B).j A))):=(zQ a1.l T η).x (p:=⟨w.o.q+1+1,1,Y⟩) (by show w.o.q<=w.o.q+1+1;omega) _;clear c0 f0 c2 f2 d2 g2 a4 af bq L T s am aF aY ar a1 hL bv bs bw bp a8;generalize F.x ⟨w.o.q+1+1,1,Y⟩ (.k K (uk B).j A)=wC at *;clear w1 F wA wB;rw[BQ,AT] at HC;go_wp2;go_loopw [9] (λv9 wr=>∃(k:Nat) (c:yB) (t:Option Addr) (j:Nat) (m:Option Addr) (d:Nat),k<=args.j/\v9=ι k/\X (CR w.o.q wr (w.o.q+1+1) c (.k t c.j j) (.k m c.j d))/\X (xH B args row=xH c (args.drop k) (row.drop k))/\c.j<=B.j+k/\X (qv c)/\X (Th wr (w.o.q+1) #[ν,ν] 270)/\X (μ w wr)) (λv9 _=>args.j-(intOf v9).D);exact⟨0,B,C,n,K,A,zs _,rfl,HC,rfl,zg _,hF,aZ,aN⟩;clear HC aZ aN e1 e2;obtain⟨k,c,t,j,m,d,hk,rfl,HC,HW,b1,a7,HZ,aa⟩:=hrel;have b2:=aa.l.q;have aq:=HC.l.box;obtain⟨hc,hf,an⟩:=aq.e;obtain⟨ai,ag,ak⟩:=HZ.l.e;by_cases aA:k<args.j
 .have bn:(k:Int)<(args.j:Int):=η;have ap:k<row.j:=η;obtain⟨g,rfl,hg,a9⟩:=HA.l _ k aA aa.l;obtain⟨gr,rfl,aV,aU⟩:=HR.l _ k ap aa.l;have ht:=ba _ (zq aA);have aL:=Kw (B:=c) aA ap;have HV:X (∀W,μ wr W->Calls prog 211 #[.agg #[.k t c.j j,.k m c.j d],.d args[k]] W λe V=>e=ε (.tuple #[.d (yq c args[k]),.i (gS c args[k])])/\X (μ wr V)/\V.p ⟨g,k,Y⟩=Z (.d args[k])/\V.p ⟨w.o.q+1+1,0,Y⟩=Z (.k t c.j j)/\V.p ⟨w.o.q+1+1,1,Y⟩=Z (.k m c.j d)):=λW i=>by
   refine(C8 W _ _ c args[k] (HC.l.sf.u i) (HC.l.ss.u i) η ht).y ?_;rintro e V ⟨q1,q2⟩;have aE:=Tk i q2.l;have aI:=aq.u aE;exact⟨q1,aE,(zi aE hg a9),by rw[aI.H.1];rfl,by rw[aI.H.1];rfl⟩
  have aO:X (∀W,μ wr W->W.p ⟨g,k,Y⟩=Z (.d args[k])/\g<W.o.q/\W.p ⟨gr,k,Y⟩=Z (.d row[k])/\gr<W.o.q):=λW i=>⟨(zi i hg a9),ym hg i.q,(zi i aV aU),ym aV i.q⟩;have be:X (∀W,μ w W->W.p ⟨gr,k,Y⟩=Z (.d row[k])/\gr<W.o.q):=λW i=>by
   obtain⟨g',e,q1,q2⟩:=HR.l W k ap i;cases e;exact⟨q2,q1⟩
  have HD:=Tg (HW.l.A aL);have aT:=Tg (J3 a7.l ht);have bd:=Tg (aS _ (zq ap));clear aL HW ht ba aq aS hF;generalize gS c args[k]=kn at *;generalize yq c args[k]=x at *;generalize args[k]=y at *;generalize row[k]=z at *;go_upto_region 7 with fail
  go_cut [10,11] from 31 to 39 (λa5 aC wx=>a5=.d x/\aC=.i kn/\X (μ wr wx))
  .go_region_held3 (λV=>V.p ⟨g,k,Y⟩=Z (.d y)/\V.p ⟨w.o.q+1+1,0,Y⟩=Z (.k t c.j j)/\V.p ⟨w.o.q+1+1,1,Y⟩=Z (.k m c.j d)) (first|go_keep|(go_simp;done)) (first|(go_at_call 211;refine(HV.l _ φ).y ?_;rintro e w5 ⟨rfl,bt,z0,z1,z2⟩))
   go_wp2;go_meet
   exact⟨rfl,rfl,bt⟩
  obtain⟨rfl,rfl,S⟩:=hcut;have bz:=S.l.q;obtain⟨a0,bg,ae,az⟩:=aO.l _ S.l;have R:=Tg (HZ.l.u S.l);have P:=Tg (zQ aa.l S.l η);have I:=Tg (HC.l.u S.l);clear hc hf a9 aU an ai ag ak HV aO HC HZ aa S;obtain⟨hc,hf,an⟩:=I.l.box.e;obtain⟨ai,ag,ak⟩:=R.l.e;by_cases hx:x=ByteArray.empty
  .obtain rfl:kn=false:=by
    cases kn;rfl;exact zB hx (aT.l.1 rfl)
   have bi:X (qv (c++[(y,z)])):=MN a7.l bd.l;have J:X (xH B args row=xH (c++[(y,z)]) (args.drop (k+1)) (row.drop (k+1))):=by rw[X,HD.l,zb hx]
   have D:=I.l.fst;have o:=I.l.snd;clear HD hx;go_upto_region 11 with fail
   go_cut [10,11] from 52 to 60 (λa5 aC wx=>∃r f,a5=.d x/\aC=.i false/\X (Th wx (w.o.q+1+1) #[.k r (c.j+1) f,.k m c.j d] 270)/\X (wx.r w.o.q 9 1 (.k r (c.j+1) f) (c.j+1) ((xE c).map O.string++[.d y]))/\X (wx.r w.o.q 9 1 (.k m c.j d) c.j ((uk c).map O.string))/\X (∀b,(O.slice r (c.j+1) f).m=Z b->(O.slice m c.j d).m≠Z b)/\X (Th wx (w.o.q+1) #[ν,ν] 270)/\X (μ w wx))
   .go_region_law (first|(refine m8 wc _ [.d y] 9 rfl (.tmp 53) (.tmp 58) 30 rfl w.o.q 9 i0 _ 1 16 underlying30 hi aK aW aG rfl θ (.k t c.j j) c.j ((xE c).map O.string) (by simp[Act.eval]) D φ wc.o.q 1 (by simp[Act.eval]) (by exact Th.drew (Th.new _ _ _)) rfl a_ η η η ?_;intro v' F M s ab bh aX;obtain⟨r,f,rfl⟩:=zr M;have H:=I.l.box.save s (jx D I.l.box θ);obtain⟨aJ,aR,af⟩:=H.e))
    all_goals
     have ah:=yQ o s (λb i E=>I.l.ne b (xa E) i);have a6:=R.l.save s (jx D R.l θ);have aB:=s.u (B:=w.o.q) (λb i=>yU D (xa i)) η;have ad:∀b,(O.slice r (c.j+1) f).m=Z b->(O.slice m c.j d).m≠Z b:=λb i hq=>by
      rcases ab with q|⟨g9,q,q2⟩;exact I.l.ne b (q ▸ i) hq;rw[i] at q;cases q;have:=yG o hq;omega
     have ac:X (Th (F.x ⟨w.o.q+1+1,0,Y⟩ (.k r (c.j+1) f)) (w.o.q+1+1) #[.k r (c.j+1) f,.k m c.j d] 270):=H.set 0 _;have au:X ((F.x ⟨w.o.q+1+1,0,Y⟩ (.k r (c.j+1) f)).r w.o.q 9 1 (.k r (c.j+1) f) (c.j+1) ((xE c).map O.string++[.d y])):=yQ M (zd.set _ _ _ _) (λb i E=>vW M H θ i (by simpa using E));have a3:X ((F.x ⟨w.o.q+1+1,0,Y⟩ (.k r (c.j+1) f)).r w.o.q 9 1 (.k m c.j d) c.j ((uk c).map O.string)):=yQ ah (zd.set _ _ _ _) (λb i E=>vW ah H θ i (by simpa using E));have al:X (Th (F.x ⟨w.o.q+1+1,0,Y⟩ (.k r (c.j+1) f)) (w.o.q+1) #[ν,ν] 270):=a6.set_ne η 0 _;have ay:X (μ w (F.x ⟨w.o.q+1+1,0,Y⟩ (.k r (c.j+1) f))):=(P.l.A aB).x (p:=⟨w.o.q+1+1,0,Y⟩) (by show w.o.q<=w.o.q+1+1;omega) _;go_wp2;go_meet
     exact⟨r,f,rfl,rfl,ac,au,a3,ad,al,ay⟩
   obtain⟨r,f,rfl,rfl,ac,au,a3,aP,al,ay⟩:=hcut;clear hc hf ai ag an ak a0 ae R P I D o bg az;obtain⟨ae,az⟩:=be.l _ ay.l;obtain⟨hc,hf,an⟩:=ac.l.e;have o:=a3.l;go_upto_region 12 with fail
   go_region_law (first|(refine m8 wc _ [.d z] 9 rfl (.tmp 62) (.tmp 67) 30 rfl w.o.q 9 i0 _ 1 16 underlying30 hi aK aW aG rfl θ (.k m c.j d) c.j ((uk c).map O.string) (by simp[Act.eval]) o φ wc.o.q 1 (by simp[Act.eval]) (by exact Th.drew (Th.new _ _ _)) rfl a_ η η η ?_;intro v' F M s ab bh aX;obtain⟨G,u,rfl⟩:=zr M;have H:=ac.l.save s (jx o ac.l θ);obtain⟨aJ,aR,af⟩:=H.e))
   all_goals
    have ah:=yQ au.l s (λb i E=>aP.l b i (xa E));have a6:=al.l.save s (jx o al.l θ);have aB:=s.u (B:=w.o.q) (λb i=>yU o (xa i)) η;have ad:∀b,(O.slice r (c.j+1) f).m=Z b->(O.slice G (c.j+1) u).m≠Z b:=λb i hq=>by
     rcases ab with q|⟨g9,q,q2⟩;exact aP.l b i (q ▸ hq);rw[hq] at q;cases q;have:=yG au.l i;omega
    have bb:X (CR w.o.q (F.x ⟨w.o.q+1+1,1,Y⟩ (.k G (c.j+1) u)) (w.o.q+1+1) (c++[(y,z)]) (.k r (c.j+1) f) (.k G (c.j+1) u)):=by
     refine⟨H.set 1 _,?_,?_,ad⟩;have q:=yQ ah (zd.set F (w.o.q+1+1) 1 (.k G (c.j+1) u)) (λb i E=>vW ah H θ i (by simpa using E));rw[yN];simpa [xE] using q;have q:=yQ M (zd.set F (w.o.q+1+1) 1 (.k G (c.j+1) u)) (λb i E=>vW M H θ i (by simpa using E));rw[yN];simpa [uk] using q
    have bc:X (Th (F.x ⟨w.o.q+1+1,1,Y⟩ (.k G (c.j+1) u)) (w.o.q+1) #[ν,ν] 270):=a6.set_ne η 1 _;have bu:X (μ w (F.x ⟨w.o.q+1+1,1,Y⟩ (.k G (c.j+1) u))):=(ay.l.A aB).x (p:=⟨w.o.q+1+1,1,Y⟩) (by show w.o.q<=w.o.q+1+1;omega) _;clear aJ aR;generalize F.x ⟨w.o.q+1+1,1,Y⟩ (.k G (c.j+1) u)=wN at *;go_wp2;go_roundw;exact⟨k+1,c++[(y,z)],r,f,G,u,η,ξ,by rw[yN];exact bb,J,by simp;omega,bi,bc,bu⟩;simp[intOf];omega
  obtain rfl:kn=true:=aT.l.2 hx;by_cases hy:x=z
  .have bk:=jt hy;have J:X (xH B args row=xH c (args.drop (k+1)) (row.drop (k+1))):=by rw[X,HD.l,za hx,zb hy]
   clear HD hx hy;go_wp2;go_roundw;exact⟨k+1,c,t,j,m,d,η,ξ,I,J,η,a7,R,P⟩;simp[intOf];omega
  have bk:=vV hy;have J:X (xH B args row=Y):=by rw[X,HD.l,za hx,za hy]
  clear HD hx hy;go_wp2;have aD:X (μ w ((wc.x ⟨w.o.q+1,0,Y⟩ (.k t c.j j)).x ⟨w.o.q+1,1,Y⟩ (.k m c.j d))):=(P.l.x (p:=⟨w.o.q+1,0,Y⟩) (by show w.o.q<=w.o.q+1;omega) _).x (p:=⟨w.o.q+1,1,Y⟩) (by show w.o.q<=w.o.q+1;omega) _;have N:=(R.l.set 0 (.k t c.j j)).set 1 (.k m c.j d);have n0:=N.H.1 0;have n1:=N.H.1 1;clear hc hf ai ag a0 ae N;generalize (wc.x ⟨w.o.q+1,0,Y⟩ (.k t c.j j)).x ⟨w.o.q+1,1,Y⟩ (.k m c.j d)=wN at *
  (try simp only[Exit.inBlock,Exit.then])
  refine zO (by simp[results,results196,go_sem,n0,n1];try rfl) rfl ?_;refine⟨_,_,_,_,_,_,by rw[J.l];rfl,λB' aj=>(by rw[J.l] at aj;cases aj),?_⟩;exact aD
 have bn:¬(k:Int)<(args.j:Int):=η;have J:X (xH B args row=Z c):=by
  rw[X,HW.l,ui η];rfl
 clear HW;go_wp2;have aD:X (μ w ((wr.x ⟨w.o.q+1,0,Y⟩ (.k t c.j j)).x ⟨w.o.q+1,1,Y⟩ (.k m c.j d))):=(aa.l.x (p:=⟨w.o.q+1,0,Y⟩) (by show w.o.q<=w.o.q+1;omega) _).x (p:=⟨w.o.q+1,1,Y⟩) (by show w.o.q<=w.o.q+1;omega) _;have q:∀{v:O} {l:κ} (h:Tn w.o.q wr v l),Tn w.o.q ((wr.x ⟨w.o.q+1,0,Y⟩ (.k t c.j j)).x ⟨w.o.q+1,1,Y⟩ (.k m c.j d)) v l:=λh=>yQ h ((zd.set wr (w.o.q+1) 0 _).A (zd.set _ (w.o.q+1) 1 _)) (λb i E=>vW h HZ.l θ i (by simpa using E));have q1:=q HC.l.sf;have q2:=q HC.l.ss;have N:=(HZ.l.set 0 (.k t c.j j)).set 1 (.k m c.j d);have n0:=N.H.1 0;have n1:=N.H.1 1;clear hc hf ai ag N q aq;generalize (wr.x ⟨w.o.q+1,0,Y⟩ (.k t c.j j)).x ⟨w.o.q+1,1,Y⟩ (.k m c.j d)=wN at *
 (try simp only[Exit.inBlock,Exit.then])
 refine zO (by simp[results,results196,go_sem,n0,n1];try rfl) rfl ?_;refine⟨_,_,_,_,_,_,by rw[J.l];rfl,λB' aj=>?_,?_⟩;rw[J.l] at aj;cases aj;exact⟨q1,q2,η⟩;exact aD
end
section
open Go.Proofs.Tryz
variable {z:Nat->Prop}{l:κ}
def Uj(z:Nat->Prop)(n:Nat):Prop:=∀b,z b->b<n
def Uj.up{n m:Nat}(h:Uj z n)(a:n<=m):Uj z m:=λb q=>ym (h b q) a
def Us(z:Nat->Prop)(w:U)(v:O)(l:κ):Prop:=Tn 0 w v l/\∀b,v.m=Z b->¬z b
def Us.u{w w':U}{v:O}{l:κ}(h:Us z w v l)(a:μ w w'):Us z w' v l:=⟨h.1.u a,h.2⟩
def Us.saveT{w w':U}{v:O}{M:Φ}{T:TypeId}(h:Us z w v l)(hs:zd M w w')(b:T2 w T M)(a:9≠T):Us z w' v l:=⟨yJ h.1 hs b a,h.2⟩
def Us.of{lo:Nat}{w:U}{v:O}(h:Tn lo w v l)(a:Uj z lo):Us z w v l:=⟨yo h (zs _),λb e q=>by have:=yU h e;have:=a b q;omega⟩
def S6:(prog.info? 30).map (λi=>(i.zero,i.q,i.bytes))=Z (Z (ν),1,24):=χ
structure Vj (z:Nat->Prop) (w:U) (gb go:Nat) (c:zc):Prop where
 lt:gb<w.o.q
 o:w.p ⟨gb,go+1,Y⟩=Z (.d c.g.o)
 k:∃av,w.p ⟨gb,go+2,Y⟩=Z av/\Us z w av c.g.k
 d:∃ao cap,w.p ⟨gb,go+3,Y⟩=Z (.k ao c.d.j cap)/\∀j (h:j<c.d.j),∃g,ao=Z ⟨g,0,Y⟩/\g<w.o.q/\w.p ⟨g,j*3,Y⟩=Z (.i c.d[j].i)/\w.p ⟨g,j*3+1,Y⟩=Z (.d c.d[j].o)/\∃av,w.p ⟨g,j*3+2,Y⟩=Z av/\Tn 0 w av c.d[j].k
def Vj.u{w w':U}{i k:Nat}{c:zc}(h:Vj z w i k c)(a:μ w w'):Vj z w' i k c:=by
 obtain⟨d,n,⟨f,u,r⟩,t,e,p,o⟩:=h;refine⟨ym d a.q,(zi a d n),⟨f,(zi a d u),r.u a⟩,t,e,(zi a d p),λj y=>?_⟩;obtain⟨g,x,b,s,v,f,q,m⟩:=o j y;exact⟨g,x,ym b a.q,(zi a b s),(zi a b v),f,(zi a b q),m.u a⟩
structure mp (z:Nat->Prop) (w:U) (mb rd gb go:Nat) (fv vv lv:O) (c:zc) (fs:List z9) (B:yB):Prop where
 model:Th w mb #[fv,ι rd] 54
 facts:pi w fv fs
 cl:Vj z w gb go c
 fst:Tn 0 w vv (xE B)
 snd:Tn 0 w lv (uk B)
 hz:Uj z w.o.q
def mp.u{w w':U}{d b f i:Nat}{e j g:O}{c:zc}{fs:Θ}{B:yB}(h:mp z w d b f i e j g c fs B)(a:μ w w'):mp z w' d b f i e j g c fs B:=⟨h.model.u a,h.facts.u a,h.cl.u a,h.fst.u a,h.snd.u a,h.hz.up a.q⟩
def x6(z:Nat->Prop)(lo:Nat)(w:U)(v:O)(a:List (κ)):Prop:=∃b:List O,b.j=a.j/\w.r lo 30 1 v a.j b/\∀i (h:i<a.j) (c:i<b.j),Us z w b[i] a[i]
def x6.nil(lo:Nat)(w:U):x6 z lo w (ν) []:=⟨[],rfl,xp _ _ _ _,λi h=>by cases h⟩
def x6.u{lo:Nat}{w w':U}{v:O}{c:List (κ)}(h:x6 z lo w v c)(e:μ w w'):x6 z lo w' v c:=by
 obtain⟨d,g,f,j⟩:=h;exact⟨d,g,zy f e,λi a b=>(j i a b).u e⟩
def QU(w:U)(mb rd C L:Nat)(fv s r:O)(c:zc)(fs:Θ)(B:yB)(hI:mp z w mb rd C L fv s r c fs B)(aK:c.d.j<=100)(aP:B.j<=100)(S:∀l∈zm c,l.k.j<=100/\∀a∈l.k,0<a.q)(aD:fs.j<=10000000)(a1:∀f∈fs,f.2.1.j<=1000000):
  Calls prog 166 #[(π mb),.u (Z ⟨C,L,Y⟩),ι c.d.j,.agg #[s,r]] w λe d=>∃v,e=.returned v/\X (x6 z w.o.q d v (yt fs c.g c.d [] B))/\X (μ w d):=by
 obtain⟨i0,hi,a7,aF,a3⟩:=info_parts S6;obtain⟨ao,M,ar,_⟩:=hI.cl.d;have y:=Tg λW (i:μ w W)=>hI.u i;have A:X (∀W,μ w W->W.p ⟨C,L+3,Y⟩=Z (.k ao c.d.j M)/\C<W.o.q):=λW i=>⟨(i.cell (p:=⟨C,L+3,Y⟩) hI.cl.lt).A ar,(hI.u i).cl.lt⟩;have aj:X (∀W j (t:j<c.d.j),μ w W->∃g,ao=Z ⟨g,0,Y⟩/\g<W.o.q/\W.p ⟨g,j*3,Y⟩=Z (.i c.d[j].i)/\W.p ⟨g,j*3+1,Y⟩=Z (.d c.d[j].o)/\∃n,W.p ⟨g,j*3+2,Y⟩=Z n/\Tn 0 W n c.d[j].k):=λW j t i=>by
  obtain⟨aM,aH,K,q2⟩:=(hI.u i).cl.d;rw[(A.l W i).1] at K;cases K;exact q2 j t
 have T:X (∀W (l:zj) n,l∈zm c->μ w W->Tn 0 W n l.k->Calls prog 195 #[.agg #[s,r],n] W λe d=>∃v,e=.returned v/\X (Tn W.o.q d v (yO B l.k))/\X (μ W d)):=λW l n hl i ha=>Ow W s r n B l.k (y.l W i).fst (y.l W i).snd ha η (by have:=(S _ hl).1;omega) (S _ hl).2;have ad:X (∀W j (t:j<c.d.j) rv am,μ w W->Tn am W rv (yO B c.d[j].k)->Calls prog 45 #[(π mb),.d c.d[j].o,rv] W λe d=>e=ε (ι (kl c.d[j].o (yO B c.d[j].k) fs))/\μ W d):=λW j t rv am i hr=>A9 W mb rd fv fs _ rv _ (y.l W i).model (y.l W i).facts hr aD (by have:=(S c.d[j] (by simp[zm])).1;simp[yO];omega) a1;have H:X (∀k (hk:k<c.d.j),c.d[k].i=true->(yP c.d[k].o (yO B c.d[k].k) fs).I=true->yt fs c.g c.d [] B=[]):=λk hk hn hs=>by
  unfold yt;rw[zb];rw[fc];exact⟨c.d[k],zq _,by rw[hn,hs];rfl⟩
 have I:X ((∀k (hk:k<c.d.j),¬(c.d[k].i=true/\(yP c.d[k].o (yO B c.d[k].k) fs).I=true))->yt fs c.g c.d [] B=[yO B c.g.k]):=λq=>by
  unfold yt;rw[za];intro hq;rw[fc] at hq;obtain⟨l,hl,hq⟩:=hq;obtain⟨j,t,rfl⟩:=vd hl;rw[uK] at hq;exact q j t hq
 have aG:X (∀W,μ w W->∃n,W.p ⟨C,L+2,Y⟩=Z n/\Tn 0 W n c.g.k):=λW i=>by
  obtain⟨n,K,q2⟩:=(y.l W i).cl.k;exact⟨n,K,q2.1⟩
 have hz:=hI.hz;obtain⟨R,o⟩:=A.l w (zn _ _);clear hI y S a1 ar;generalize yt fs c.g c.d [] B=aO at *;go_enter func166,ntmps166;go_upto_region 2 with fail
 have av:X (μ w (w.C (.E #[s,r] 270))):=(zn _ _).C (zg _) _;have al:X (∀W,Below (w.C (.E #[s,r] 270)).o.q (w.C (.E #[s,r] 270)) W->W.p ⟨w.o.q,0,Y⟩=Z s/\W.p ⟨w.o.q,1,Y⟩=Z r/\w.o.q<W.o.q):=λW i=>by
  have q:=(Th.new w #[s,r] 270).u i;exact⟨by rw[q.H.1];rfl,by rw[q.H.1];rfl,q.lt⟩
 clear R o;obtain⟨R,o⟩:=A.l _ av.l;generalize a8:w.C (.E #[s,r] 270)=wA at *;clear a8;go_wp2;clear R o;go_loopw [10,11,12] (λag _ _ wr=>∃k:Nat,k<=c.d.j/\ag=ι k/\X (∀j (t:j<c.d.j),j<k->¬(c.d[j].i=true/\(yP c.d[j].o (yO B c.d[j].k) fs).I=true))/\X (μ wA wr)) (λag _ _ _=>c.d.j-(intOf ag).D);exact⟨0,η,rfl,λj t h2=>η,zn _ _⟩;obtain⟨k,hk,rfl,HN,J⟩:=hrel;have u:=Tg (Tk av.l J.l);obtain⟨R,o⟩:=A.l _ u.l;obtain⟨b0,b1,au⟩:=al.l _ J.l;by_cases F:k<c.d.j
 .have aB:(k:Int)<(c.d.j:Int):=η;obtain⟨g,rfl,hg,_,_,n,c2,D⟩:=aj.l _ k F u.l;have E:X (∀W,μ wr W->Calls prog 195 #[.agg #[s,r],n] W λe d=>∃v,e=.returned v/\X (Tn w.o.q d v (yO B c.d[k].k))/\X (μ wr d)/\d.p ⟨g,k*3+2,Y⟩=Z n/\d.p ⟨w.o.q,0,Y⟩=Z s/\d.p ⟨w.o.q,1,Y⟩=Z r/\d.p ⟨C,L+3,Y⟩=Z (.k (Z ⟨g,0,Y⟩) c.d.j M)):=λW i=>by
   have G:=Tk u.l i;refine(T.l W c.d[k] n (by simp[zm]) G (D.u i)).y ?_;rintro e d ⟨v,K,q2,q3⟩;have m:=Tk i q3.l;obtain⟨b0,b1,_⟩:=al.l d (Tk J.l m);exact⟨v,K,yo q2.l G.q,m,(zi m hg c2),b0,b1,(zi m o R)⟩
  clear D;go_upto_region 6 with fail
  go_cut [11] from 34 to 43 (λaE wx=>∃v,aE=v/\X (Tn w.o.q wx v (yO B c.d[k].k))/\X (μ wr wx))
  .go_region_held3 (λd=>d.p ⟨g,k*3+2,Y⟩=Z n/\d.p ⟨w.o.q,0,Y⟩=Z s/\d.p ⟨w.o.q,1,Y⟩=Z r/\d.p ⟨C,L+3,Y⟩=Z (.k (Z ⟨g,0,Y⟩) c.d.j M)) (first|go_keep|(go_simp;done)) (first|(go_at_call 195;refine(E.l _ φ).y ?_;rintro e w5 ⟨v5,rfl,ae,ak,z0,z1,z2,z3⟩))
   go_wp2;go_meet
   exact⟨_,rfl,ae,ak⟩
  obtain⟨ap,V,N,P⟩:=hcut;obtain rfl:=V.z;clear V c2 hg b0 b1 au E R o;have h:=Tg (Tk u.l P.l);have an:=Tg (Tk J.l P.l);obtain⟨R,o⟩:=A.l _ h.l;obtain⟨g',e',hg,_,c1,_⟩:=aj.l _ k F h.l;cases e';have ab:X (Calls prog 45 #[(π mb),.d c.d[k].o,ap] wc λe d=>e=ε (ι (kl c.d[k].o (yO B c.d[k].k) fs))/\X (μ wc d)/\g<d.o.q/\d.p ⟨g,k*3,Y⟩=Z (.i c.d[k].i)/\d.p ⟨C,L+3,Y⟩=Z (.k (Z ⟨g,0,Y⟩) c.d.j M)/\C<d.o.q):=by
   refine(ad.l wc k F ap _ h.l N.l).y ?_;rintro e d ⟨K,q3⟩;have m:=Tk h.l q3;obtain⟨g',e',y1,y2,_⟩:=aj.l _ k F m;cases e';exact⟨K,q3,y1,y2,A.l _ m⟩
  have az:X (¬(c.d[k].i=true/\(yP c.d[k].o (yO B c.d[k].k) fs).I=true)->∀j (t:j<c.d.j),j<k+1->¬(c.d[j].i=true/\(yP c.d[j].o (yO B c.d[j].k) fs).I=true)):=λq j t h2=>by
   by_cases a4:j=k;subst a4;exact q;exact HN.l j t η
  have a9:=Tg (H.l k F);have aa:X ((yP c.d[k].o (yO B c.d[k].k) fs).I=true↔0<=kl c.d[k].o (yO B c.d[k].k) fs):=by
   unfold X kl;rcases yP c.d[k].o (yO B c.d[k].k) fs with _|z;simp;simp
  generalize kl c.d[k].o (yO B c.d[k].k) fs=fi at *;generalize (yP c.d[k].o (yO B c.d[k].k) fs).I=fb at *;generalize c.d[k].o=pr at *;generalize c.d[k].i=ng at *;go_upto_region 8 with (first|(go_at_call 45;refine ab.l.y ?_;rintro e w6 ⟨rfl,a0,aN,z0,z3,aI⟩))
  have aw:=Tg (Tk h.l a0.l);have ac:=Tg (Tk an.l a0.l);clear ab c1 R hg o;cases ng
  .have ai:=Tg (az.l ζ);go_wp2;go_roundw;exact⟨k+1,η,ξ,ai,ac⟩;simp[intOf];omega
  by_cases aq:0<=fi
  .have HR:=Tg (a9.l rfl (aa.l.2 aq));go_wp2;go_ret;exact⟨_,rfl,by rw[X,HR.l];exact x6.nil _ _,aw⟩
  have ai:=Tg (az.l (λq=>aq (aa.l.1 q.2)));go_wp2;go_roundw;exact⟨k+1,η,ξ,ai,ac⟩;simp[intOf];omega
 have aB:¬(k:Int)<(c.d.j:Int):=η;have ah:=Tg (I.l λj t=>HN.l j t η);clear HN I H;obtain⟨n,c2,D⟩:=aG.l _ u.l;have E:X (∀W,μ wr W->Calls prog 195 #[.agg #[s,r],n] W λe d=>∃v,e=.returned v/\X (Tn w.o.q d v (yO B c.g.k))/\X (μ wr d)/\d.p ⟨C,L+2,Y⟩=Z n/\d.p ⟨w.o.q,0,Y⟩=Z s/\d.p ⟨w.o.q,1,Y⟩=Z r):=λW i=>by
  have G:=Tk u.l i;refine(T.l W c.g n (by simp[zm]) G (D.u i)).y ?_;rintro e d ⟨v,K,q2,q3⟩;have m:=Tk i q3.l;obtain⟨b0,b1,_⟩:=al.l d (Tk J.l m);exact⟨v,K,yo q2.l G.q,m,(zi m o c2),b0,b1⟩
 clear D;go_upto_region 10 with fail
 go_cut [13] from 67 to 73 (λa2 wx=>∃v,a2=v/\X (Tn w.o.q wx v (yO B c.g.k))/\X (μ wr wx))
 .go_region_held3 (λd=>d.p ⟨C,L+2,Y⟩=Z n/\d.p ⟨w.o.q,0,Y⟩=Z s/\d.p ⟨w.o.q,1,Y⟩=Z r) (first|go_keep|(go_simp;done)) (first|(go_at_call 195;refine(E.l _ φ).y ?_;rintro e w5 ⟨v5,rfl,ae,ak,z0,z1,z2⟩))
  go_wp2;go_meet
  exact⟨_,rfl,ae,ak⟩
 obtain⟨aL,x,N,P⟩:=hcut;obtain rfl:=x.z;clear x c2 b0 b1 au E R o;have h:=Tg (Tk u.l P.l);obtain⟨ax,af,x⟩:=N.l.qy;subst x;have aJ:=h.l.q;generalize (yO B c.g.k).j=rl at *;go_wp2_with (at_builtin;refine gu wc _ _ _ rfl (.tmp 74) (.tmp 76) 31 rfl w.o.q 30 i0 _ 1 24 underlying31 hi a7 aF a3 rfl θ _ 0 [] rfl (xp _ _ _ _) (zn _ _) _ _ rfl ζ rfl a_ η η η ?_;intro v' w2 a6 Q a5 aC aA ay;clear a5 aC)
 go_ret;have hS:zd [] wc w2:=⟨Q.os,Q.tape,Q.output,ay,λj t _=>aA j t (show Z j≠Y from Option.some_ne_none j)⟩;refine⟨_,rfl,⟨[.k ax rl af],by rw[ah.l];rfl,by rw[ah.l];exact a6,λj h1 h2=>?_⟩,h.l.A Q⟩;obtain rfl:j=0:=by simp at h2;exact h2
 have q:=Us.of (yQ N.l hS (λb _ hm=>by cases hm)) hz;simp only[ah.l,dZ];exact q
end
section
open Go.Proofs.Tryz
variable {z:Nat->Prop}{o1 o2:Option Addr}{wo:Option yB}
section
variable {ops:Array Oper} {rest:List Oper} {o:Oper} {a:Act} {Q:Exit->Act->U->Prop}
def x6.saveT{lo:Nat}{w w':U}{v:O}{c:List (κ)}{M:Φ}{T:TypeId}(h:x6 z lo w v c)(hs:zd M w w')(e:T2 w T M)(l:30≠T)(k:9≠T):x6 z lo w' v c:=by
 obtain⟨d,g,j,f⟩:=h;exact⟨d,g,yJ j hs e l,λi a b=>(f i a b).saveT hs e k⟩
def J9{lo y:Nat}{w:U}(m:o.guard=Y)(s x:Operand)
  (S:o.op=.call {callee:=.builtin .append,args:=#[s,x],argTypes:=#[31,31]})
  (q f:List (κ)) (p M:O) (K:a.eval s=p) (V:a.eval x=M) (h1:x6 z lo w p q) (h2:x6 z y w M f) (hl:q.j+f.j<=1000000000000) (G:lo<=w.o.q)
  (h:∀H I,x6 z lo I H (q++f)->zd p.m.v w I->wpList prog ops Q rest (a.put o.dst H) I):
  wpList prog ops Q (o::rest) a w:=by
 obtain⟨R,N,F,r,v⟩:=info_parts S6;obtain⟨l,J,i,T⟩:=h1;obtain⟨b,W,b2,P⟩:=h2;have n:∀u∈b,u.oneCell'=true:=by
  intro u hu;obtain⟨j,d,rfl⟩:=vL.1 hu;obtain⟨ao,aa,e⟩:=(P j η d).1.qy;rw[e];simp[O.oneCell']
 obtain⟨_,⟨t,hn⟩|⟨L,g,ae,t,ab,hh,af,ad,ac,D⟩⟩:=id b2;have E:f=[]:=lP hn;refine wpList_append_own_none m s x 31 S lo 30 R 1 underlying31 N _ _ _ K i (by rw[V,t]) ?_;refine h _ _ ?_ (zd.refl _ _);rw[E,qb];exact⟨l,J,i,T⟩;have B:∀j u,b[j]?=Z u->w.p (Addr.add (δ L) j)=Z u:=λj u d=>by
  rw[Addr.add_lit,vx];unfold U.cell?;rw[hh];simp only;rw[←D,nc] at d;split at d;simpa using d;simp at d
 refine wpList_append_own _ m s x 31 S lo 30 R _ 1 24 underlying31 N F r v rfl θ _ _ _ K i (δ L) f.j g b (by rw[V,t]) η B n b_ η G ?_;intro H w2 A c _;have C:zd p.m.v w w2:=⟨c.os,c.tape,c.output,c.q,λk hk hm=>c.block k hk λe=>hm (by rw[←e];simp)⟩;refine h _ _ ⟨l++b,by simp[J,W],by rw[yN];exact A,λj q1 q2=>?_⟩ C;by_cases d:j<q.j;rw[uH η,uH d];exact(T j d η).saveT C (T2.own i) θ;rw[lB η,lB η];simp only[J];simp only[yN] at q1 q2;exact(P _ η η).saveT C (T2.own i) θ
end
def ln(fs:List z9)(h:zj)(body rest:List zj)(l:zj)(B:yB)(f:z9):List (κ):=if f.1=l.o then(match xH B l.k f.2.1 with|none=>[]|some b=>yt fs h body rest b) else []
def NG{fs:Θ}{h:zj}{body rest:Ω}{l:zj}{B:yB}(b:l.i=false):yt fs h body (l::rest) B=fs.flatMap (ln fs h body rest l B):=by
 unfold yt;rw[za (by simp[b])];rfl
def LB{α β:Type}(f:α->List β)(l:List α){i:Nat}(b:i<l.j):(l.G (i+1)).flatMap f=(l.G i).flatMap f++f l[i]:=by
 rw[yM b,List.flatMap_append];simp
def Kp{α β:Type}(f:α->List β)(l:List α)(i:Nat):((l.G i).flatMap f).j<=(l.flatMap f).j:=by
 conv=>rhs;rw[←kj i l]
 rw[List.flatMap_append,yN];omega
def UD(f w:U)(m:Nat)(wo:Option yB)(s:O):Prop:=∃(g h c:Nat) (o1:Option Addr) (e d:Nat) (o2:Option Addr),s=(π g)/\X (∀b,wo=Z b->Tn 0 w (.k o1 h c) (xE b)/\Tn 0 w (.k o2 e d) (uk b)/\b.j<=m)/\X (Th w g #[.k o1 h c,.k o2 e d] 270)/\X (μ f w)
def UD.one{i w5:U}{m g c f d:Nat}(k:μ i w5)(h:∀b,wo=Z b->Tn 0 w5 (.k o1 g c) (xE b)/\Tn 0 w5 (.k o2 f d) (uk b)/\b.j<=m):UD i (w5.C (.E #[.k o1 g c,.k o2 f d] 270)) m wo (.u (Z (δ w5.o.q))):=by
 have j:μ w5 (w5.C (.E #[.k o1 g c,.k o2 f d] 270)):=(zn _ _).C (zg _) _;exact⟨_,g,c,o1,f,d,o2,rfl,λb e=>⟨(h b e).1.u j,(h b e).2.1.u j,(h b e).2.2⟩,Th.new w5 _ _,Tk k j⟩
def UD.two{k w5:U}{m j f i d c:Nat}{s t:O}(g:k.o.q<=c)(w:μ k w5)(r:Th w5 c #[s,t] 270)(h:∀b,wo=Z b->Tn 0 w5 (.k o1 j f) (xE b)/\Tn 0 w5 (.k o2 i d) (uk b)/\b.j<=m):UD k ((w5.x (δ c) (.k o1 j f)).x (ω c 1) (.k o2 i d)) m wo ((π c)):=by
 have p:=r.set 0 (.k o1 j f);have u:=p.set 1 (.k o2 i d);have n:∀v l,Tn 0 w5 v l->Tn 0 ((w5.x (δ c) (.k o1 j f)).x (ω c 1) (.k o2 i d)) v l:=λv l q=>yJ (yJ q (zd.set _ _ _ _) (T2.box r) θ) (zd.set _ _ _ _) (T2.box p) θ;exact⟨c,j,f,o1,i,d,o2,rfl,λb e=>⟨n _ _ (h b e).1,n _ _ (h b e).2.1,(h b e).2.2⟩,show Th _ _ _ _ by simpa using u,(w.x g _).x g _⟩
def Ou(w:U)(u K x y:Nat)(M m j:O)(c:zc)(fs:Θ)(B:yB)(l:zj)(rest:Ω)(k:Nat)(A:mp z w u K x y M m j c fs B)(V:c.d.j<=30)(D:k<c.d.j)(q:c.d[k]=l)(ad:B.j<=3*k)(N:qv B)(F:l.i=true)(h:(yt fs c.g c.d (l::rest) B).j<=1000000000000)(d:X (∀W r p (s:yB),s.j<=3*(k+1)->qv s->(yt fs c.g c.d rest s).j<=1000000000000->mp z W u K x y M r p c fs s->Calls prog 166 #[(π u),.u (Z (ω x y)),ι ((k:Int)+1),.agg #[r,p]] W λe t=>∃v,e=.returned v/\X (x6 z W.o.q t v (yt fs c.g c.d rest s))/\X (μ W t))):
  Calls prog 166 #[(π u),.u (Z (ω x y)),ι k,.agg #[m,j]] w λe t=>∃v,e=.returned v/\X (x6 z w.o.q t v (yt fs c.g c.d (l::rest) B))/\X (μ w t):=by
 have f:X (yt fs c.g c.d (l::rest) B=yt fs c.g c.d rest B):=by
  unfold X;rw[yt,zb F]
 rw[f.l] at h;have i:X (μ w (w.C (.E #[m,j] 270))):=(zn _ _).C (zg _) _;have I:=Tg (A.u i.l);obtain⟨ao,aa,c3,P⟩:=I.l.cl.d;obtain⟨g,rfl,hg,c0,_⟩:=P k D;rw[q,F] at c0;have R:=I.l.cl.lt;have b:=Th.new w #[m,j] 270;have b0:=b.H.1 0;have b1:=b.H.1 1;have S:=b.lt;have G:=Tg (d.l _ m j B η N h I.l);obtain⟨_,_,T,_⟩:=A.cl.d;have n:=A.cl.lt;have L:((k:Int) == (c.d.j:Int))=false:=by simp;omega
 have ab:(k:Int)<(c.d.j:Int):=η;generalize yt fs c.g c.d (l::rest) B=ac at *;clear A P b N h d q F;go_enter func166,ntmps166;go_upto_region 2 with fail
 generalize H:w.C (.E #[m,j] 270)=wA at *;clear H T n;go_wp2_with (go_at_call 166;refine G.l.y ?_;rintro e w1 ⟨v1,rfl,E,C⟩)
 go_ret;obtain⟨J,q1,q2,q3⟩:=E.l;exact⟨_,rfl,by rw[X,f.l];exact⟨J,q1,yo q2 i.l.q,q3⟩,Tk i.l C.l⟩
def MJ(w:U)(mb rd gb go:Nat)(fv F D:O)(c:zc)(fs:Θ)(B:yB)(l:zj)(rest:Ω)(k:Nat)(hI:mp z w mb rd gb go fv F D c fs B)(bs:c.d.j<=30)(ag:l.k.j<=3/\∀a∈l.k,0<a.q)(bt:fs.j<=10000000)(a1:∀f∈fs,f.1=l.o->f.2.1.j=l.k.j)(av:∀f∈fs,∀x∈f.2.1,x≠ByteArray.empty)(bd:k<c.d.j)(aK:c.d[k]=l)(bv:B.j<=3*k)(hF:qv B)(hn:l.i=false)(az:(yt fs c.g c.d (l::rest) B).j<=1000000000000)(aD:X (∀W a6 aF (d:yB),d.j<=3*(k+1)->qv d->(yt fs c.g c.d rest d).j<=1000000000000->mp z W mb rd gb go fv a6 aF c fs d->Calls prog 166 #[(π mb),.u (Z ⟨gb,go,Y⟩),ι ((k:Int)+1),.agg #[a6,aF]] W λe j=>∃v,e=.returned v/\X (x6 z W.o.q j v (yt fs c.g c.d rest d))/\X (μ W j))):
  Calls prog 166 #[(π mb),.u (Z ⟨gb,go,Y⟩),ι k,.agg #[F,D]] w λe j=>∃v,e=.returned v/\X (x6 z w.o.q j v (yt fs c.g c.d (l::rest) B))/\X (μ w j):=by
 obtain⟨ao,an,rfl,_⟩:=id hI.facts;obtain⟨aM,R,a8,_⟩:=hI.cl.d;have u:=NG (fs:=fs) (h:=c.g) (body:=c.d) (rest:=rest) (B:=B) hn;rw[u] at az;have a5:=Tg u;have ar:=Tg λW (m:μ w W)=>hI.u m;have aa:X (∀W,μ w W->W.p ⟨gb,go+3,Y⟩=Z (.k aM c.d.j R)/\gb<W.o.q):=λW m=>⟨(m.cell (p:=⟨gb,go+3,Y⟩) hI.cl.lt).A a8,(hI.u m).cl.lt⟩;have aH:X (∀W,μ w W->∃g,aM=Z ⟨g,0,Y⟩/\g<W.o.q/\W.p ⟨g,k*3,Y⟩=Z (.i false)/\W.p ⟨g,k*3+1,Y⟩=Z (.d l.o)/\∃G,W.p ⟨g,k*3+2,Y⟩=Z G/\Tn 0 W G l.k):=λW m=>by
  obtain⟨be,aA,E,q2⟩:=(hI.u m).cl.d;rw[(aa.l W m).1] at E;cases E;have:=q2 k bd;rw[aK,hn] at this;exact this
 have aG:X (∀W,μ w W->W.p ⟨mb,0,Y⟩=Z (.k ao fs.j an)/\mb<W.o.q):=λW m=>⟨by rw[(hI.u m).model.H.1];rfl,(hI.u m).model.lt⟩;have bb:X (∀W i (L:i<fs.j),μ w W->∃H s,ao=Z ⟨H,0,Y⟩/\H<W.o.q/\W.p ⟨H,i*3,Y⟩=Z (.d fs[i].1)/\W.p ⟨H,i*3+1,Y⟩=Z s/\∃lo,Tn lo W s fs[i].2.1):=λW i L m=>by
  obtain⟨be,aA,e,q⟩:=(hI.u m).facts;cases e;obtain⟨H,s,lo,r1,r2,r3,r4,_,r6⟩:=q i L;exact⟨H,s,r1,r2,r3,r4,lo,r6⟩
 have K:X (∀W i (L:i<fs.j) G s N,fs[i].1=l.o->μ w W->Tn 0 W G l.k->Tn N W s fs[i].2.1->Calls prog 196 #[.agg #[F,D],G,s] W λe j=>∃(J c1:Nat) (o1:Option Addr) (I M:Nat) (o2:Option Addr),e=ε (.tuple #[.agg #[.k o1 J c1,.k o2 I M],.i (xH B l.k fs[i].2.1).I])/\X (∀d,xH B l.k fs[i].2.1=Z d->Tn 0 j (.k o1 J c1) (xE d)/\Tn 0 j (.k o2 I M) (uk d)/\d.j<=3*(k+1))/\X (μ W j)):=λW i L G s N hp m ha hr=>by
  refine(Oz W F D G s B l.k fs[i].2.1 (ar.l W m).fst (ar.l W m).snd ha hr η η (a1 _ (zq L) hp) ag.2 hF (av _ (zq L))).y ?_;rintro e j ⟨J,c1,o1,I,M,o2,E,q2,q3⟩;refine⟨J,c1,o1,I,M,o2,E,λd bm=>?_,q3⟩;obtain⟨r1,r2,r3⟩:=q2.l d bm;exact⟨yo r1 (zs _),yo r2 (zs _),by have:=ag.1;omega⟩
 have ak:X (∀i (L:i<fs.j) d,fs[i].1=l.o->xH B l.k fs[i].2.1=Z d->qv d):=λi L d hp hq=>(sy l.k fs[i].2.1 B d (a1 _ (zq L) hp).z (av _ (zq L)) (λa ha e=>by have:=ag.2 a ha;rw[e] at this;exact zB this θ) hF hq).1;have aZ:=Tg az;obtain⟨c3,r⟩:=aa.l w (zn _ _);have bn:((k:Int) == (c.d.j:Int))=false:=by simp;omega
 have br:(k:Int)<(c.d.j:Int):=η;clear hI ag a1 av a8 u az hF hn aK;generalize yt fs c.g c.d (l::rest) B=bu at *;go_enter func166,ntmps166;go_upto_region 2 with fail
 have ad:X (μ w (w.C (.E #[F,D] 270))):=(zn _ _).C (zg _) _;have bg:X (∀W,Below (w.C (.E #[F,D] 270)).o.q (w.C (.E #[F,D] 270)) W->W.p ⟨w.o.q,0,Y⟩=Z F/\W.p ⟨w.o.q,1,Y⟩=Z D/\w.o.q<W.o.q):=λW m=>by
  have q:=(Th.new w #[F,D] 270).u m;exact⟨by rw[q.H.1];rfl,by rw[q.H.1];rfl,q.lt⟩
 clear c3 r;obtain⟨c3,r⟩:=aa.l _ ad.l;obtain⟨g,rfl,hg,c0,_⟩:=aH.l _ ad.l;generalize aU:w.C (.E #[F,D] 270)=wA at *;clear aU;go_wp2;clear c3 r c0 hg;go_loopw [9,14,15,16,17] (λv9 aw _ _ _ wr=>∃i:Nat,i<=fs.j/\aw=ι i/\X (x6 z wA.o.q wr v9 ((fs.G i).flatMap (ln fs c.g c.d rest l B)))/\X (μ wA wr)) (λ_ aw _ _ _ _=>fs.j-(intOf aw).D);exact⟨0,zs _,rfl,x6.nil _ _,zn _ _⟩;obtain⟨i,L,rfl,ah,ac⟩:=hrel;have A:=Tg (Tk ad.l ac.l);obtain⟨m0,ab⟩:=aG.l _ A.l;by_cases ae:i<fs.j
 .have aV:(i:Int)<(fs.j:Int):=η;have T:X ((fs.G (i+1)).flatMap (ln fs c.g c.d rest l B)=(fs.G i).flatMap (ln fs c.g c.d rest l B)++ln fs c.g c.d rest l B fs[i]):=LB _ _ ae;have aW:X (((fs.G (i+1)).flatMap (ln fs c.g c.d rest l B)).j<=1000000000000):=zY (Kp _ _ _) aZ.l;obtain⟨H,s,rfl,au,f0,f1,N,ax⟩:=bb.l _ i ae A.l;obtain⟨g',e',hg,_,c1,G,M,ap⟩:=aH.l _ A.l;cases e';obtain⟨c3,r⟩:=aa.l _ A.l;by_cases he:fs[i].1=l.o
  .have bf:=jt he;have C:X (ln fs c.g c.d rest l B fs[i]=(match xH B l.k fs[i].2.1 with|none=>[]|some d=>yt fs c.g c.d rest d)):=zb he;have aO:=Tg λW G s N E q2 q3=>K.l W i ae G s N he E q2 q3;have aY:=Tg λd q=>ak.l i ae d he q;generalize ln fs c.g c.d rest l B fs[i]=sn at *;clear he K ak;generalize fs[i].1=x at *;generalize fs[i].2.1=rw at *;go_upto_region 17 with fail
   go_quiet (fail)
   have aQ:=Tg (ah.l.u (mH wr nq));have a0:=Tg (zI ac.l nq);have n:=Tg (zI A.l nq);have al:=ax.u (mH wr nq);have ai:=ap.u (mH wr nq);have a2:=((mH wr nq).cell (p:=⟨H,i*3+1,Y⟩) au).A f1;have a3:=((mH wr nq).cell (p:=⟨g,k*3+2,Y⟩) hg).A M;have am:=ym au (mH wr nq).q;have a9:=ym hg (mH wr nq).q;clear m0 ab au f0 f1 ax hg c1 M ap c3 r ah ac A;generalize wr.drewN nq=wq at *;obtain⟨m0,ab⟩:=aG.l _ n.l;obtain⟨c3,r⟩:=aa.l _ n.l;obtain⟨b0,b1,aq⟩:=bg.l _ a0.l;have aI:X (∀W,μ wq W->Calls prog 196 #[.agg #[F,D],G,s] W λe j=>∃(J c1:Nat) (o1:Option Addr) (I M:Nat) (o2:Option Addr),e=ε (.tuple #[.agg #[.k o1 J c1,.k o2 I M],.i (xH B l.k rw).I])/\X (∀d,xH B l.k rw=Z d->Tn 0 j (.k o1 J c1) (xE d)/\Tn 0 j (.k o2 I M) (uk d)/\d.j<=3*(k+1))/\X (μ wq j)/\X (μ W j)/\j.p ⟨g,k*3+2,Y⟩=Z G/\j.p ⟨w.o.q,0,Y⟩=Z F/\j.p ⟨w.o.q,1,Y⟩=Z D/\j.p ⟨mb,0,Y⟩=Z (.k (Z ⟨H,0,Y⟩) fs.j an)/\j.p ⟨H,i*3+1,Y⟩=Z s/\j.p ⟨gb,go+3,Y⟩=Z (.k (Z ⟨g,0,Y⟩) c.d.j R)):=λW m=>by
    refine(aO.l W _ _ _ (Tk n.l m) (ai.u m) (al.u m)).y ?_;rintro e j ⟨J,m1,o1,I,m2,o2,E,q2,q3⟩;have t:=Tk m q3.l;exact⟨J,m1,o1,I,m2,o2,E,q2,t,q3,(zi t a9 a3),(zi t aq b0),(zi t aq b1),(zi t ab m0),(zi t am a2),(zi t r c3)⟩
   clear ai al aO;generalize xH B l.k rw=wo at *;go_upto_region 18 with fail
   go_cut [15,16] from 118 to 138 (λaS ba wx=>ba=.i wo.I/\UD wq wx (3*(k+1)) wo aS)
   .go_region_held3 (λj=>j.p ⟨g,k*3+2,Y⟩=Z G/\j.p ⟨w.o.q,0,Y⟩=Z F/\j.p ⟨w.o.q,1,Y⟩=Z D/\j.p ⟨mb,0,Y⟩=Z (.k (Z ⟨H,0,Y⟩) fs.j an)/\j.p ⟨H,i*3+1,Y⟩=Z s/\j.p ⟨gb,go+3,Y⟩=Z (.k (Z ⟨g,0,Y⟩) c.d.j R)) (first|go_keep|(go_simp;done)) (first|(go_at_call 196;refine(aI.l _ φ).y ?_;rintro e w5 ⟨J,m1,o1,I,m2,o2,rfl,a7,aJ,aR,z0,z1,z2,z3,z4,z5⟩;(try (with_reducible refine Th.carry (Th.drew (Th.new wq #[ν,ν] 270)) aR.l ?_;intro aC;obtain⟨bo,bq,bp⟩:=aC.e))))
    all_goals
     go_wp2_with fail
     go_meet
     first|exact⟨rfl,UD.one aJ.l a7.l⟩|exact⟨rfl,UD.two (zg _) aJ.l aC a7.l⟩
   obtain⟨rfl,xq,J,m1,o1,I,m2,o2,rfl,HQ,ay,af⟩:=hcut;have aL:=Tg (aQ.l.u af.l);have aj:=Tg (Tk a0.l af.l);have a4:=Tg (Tk n.l af.l);clear m0 ab c3 r b0 b1 aq aI a2 a3 am a9 aQ a0 n af;rcases wo with _|d
   .have HT:X (sn=[]):=C.l;go_wp2;go_roundw;exact⟨i+1,η,ξ,by rw[T.l,HT.l,qb];exact aL.l,aj⟩;simp[intOf];omega
   have HT:X (sn=yt fs c.g c.d rest d):=C.l;simp only[j8];obtain⟨s1,s2,s3⟩:=HQ.l d rfl;have S:=ar.l wc a4.l;have P:=aW.l;rw[T.l,HT.l,yN] at P;have aB:=Tg (aD.l wc (.k o1 J m1) (.k o2 I m2) d s3 (aY.l d rfl) η ⟨S.model,S.facts,S.cl,s1,s2,S.hz⟩);have q0:=ay.l.H.1 0;have E:=ay.l.H.1 1;have bc:=ay.l.lt;have bh:=Tg P;clear s1 s2 HQ S P;generalize yt fs c.g c.d rest d=fr at *;go_upto_region 21 with (first|(go_at_call 166;refine aB.l.y ?_;rintro e w6 ⟨v6,rfl,aT,aN⟩))
   have aP:=Tg (aL.l.u aN.l);have V:=Tg (Tk aj.l aN.l);clear q0 E bc aB;go_wp2_with (at_builtin;refine J9 rfl (.tmp 146) (.tmp 147) rfl _ _ _ _ rfl rfl aP.l aT.l bh.l V.l.q ?_;intro v8 w8 aX bi)
   go_roundw;obtain⟨_,_,aE,_⟩:=aP.l;exact⟨i+1,η,ξ,by rw[T.l,HT.l];exact aX,V.l.A (bi.u (λb m=>yU aE (xa m)) V.l.q)⟩;simp[intOf];omega
  have bf:=vV he;have C:X ((fs.G (i+1)).flatMap (ln fs c.g c.d rest l B)=(fs.G i).flatMap (ln fs c.g c.d rest l B)):=by
   rw[X,T.l,ln,za he,qb]
  clear T he f1 ax ap M;generalize fs[i].1=x at *;generalize l.o=y at *;go_wp2;go_quiet (fail)
  go_wp2;go_roundw;exact⟨i+1,η,ξ,by rw[C.l];exact ah.l.u (mH _ _),zI ac.l _⟩;simp[intOf];omega
 have aV:¬(i:Int)<(fs.j:Int):=η;obtain rfl:i=fs.j:=η;go_wp2;go_ret;obtain⟨bk,E,q2,q3⟩:=ah.l;rw[uW] at E q2 q3;exact⟨_,rfl,by rw[X,a5.l];exact⟨bk,E,yo q2 ad.l.q,q3⟩,A⟩
def Gk(j F m p:Nat)(G:O)(c:zc)(fs:Θ)(q:c.d.j<=30)(h:∀l∈zm c,l.k.j<=3/\∀a∈l.k,0<a.q)(r:fs.j<=10000000)(H:∀f∈fs,f.2.1.j<=1000000)(K:∀f∈fs,∀l∈zm c,f.1=l.o->f.2.1.j=l.k.j)(J:∀f∈fs,∀x∈f.2.1,x≠ByteArray.empty):∀(rest:Ω) (k:Nat) (w:U) (D u:O) (B:yB),k<=c.d.j->c.d.drop k=rest->B.j<=3*k->qv B->(yt fs c.g c.d rest B).j<=1000000000000->mp z w j F m p G D u c fs B →
  Calls prog 166 #[(π j),.u (Z (ω m p)),ι k,.agg #[D,u]] w λe I=>∃v,e=.returned v/\X (x6 z w.o.q I v (yt fs c.g c.d rest B))/\X (μ w I)
 |[],k,w,D,u,B,hk,L,E,P,t,M=>by
  have N:k=c.d.j:=by
   have:=congrArg List.length L;simp at this;omega
  subst N;exact QU w j F m p G D u c fs B M η η (λl R=>⟨by have:=(h l R).1;omega,(h l R).2⟩) r H
 |l::rest,k,w,D,u,B,hk,L,E,P,t,M=>by
  have d:k<c.d.j:=by
   have:=congrArg List.length L;simp at this;omega
  have A:=L;rw[xn d] at A;have s:c.d[k]=l:=(List.cons.inj A).1;have y:c.d.drop (k+1)=rest:=(List.cons.inj A).2;have n:l∈zm c:=by simp[zm,←s]
  have i:X (∀W g b (C:yB),C.j<=3*(k+1)->qv C->(yt fs c.g c.d rest C).j<=1000000000000->mp z W j F m p G g b c fs C->Calls prog 166 #[(π j),.u (Z (ω m p)),ι ((k:Int)+1),.agg #[g,b]] W λe I=>∃v,e=.returned v/\X (x6 z W.o.q I v (yt fs c.g c.d rest C))/\X (μ W I)):=λW g b C h1 T h3 h4=>Gk j F m p G c fs q h r H K J rest (k+1) W g b C d y h1 T h3 h4;cases S:l.i with
  |true=>exact Ou w j F m p G D u c fs B l rest k M q d s E P S t i
  |false=>exact MJ w j F m p G D u c fs B l rest k M q (h l n) r (λf V e=>K f V l n e) J d s E P S t i
end
section
open Go.Proofs.Tryz
variable {z:Nat->Prop}{rvs:List O}{lo:Nat}{w:U}
def SF:(prog.info? 56).map (λi=>(i.zero,i.q,i.bytes))=Z (Z (.agg #[.d ByteArray.empty,ν,ι 0]),3,48):=χ
def UE(f:z9)(a:O):List Value:=[.d f.1,a,ι (f.2.2:Nat)]
def qI(fs:List z9)(rvs:List O):List Value:=(List.zipWith UE fs rvs).flatten
def N0{fs b:Θ}{a:Γ}(h:rvs.j=fs.j):qI (fs++b) (rvs++a)=qI fs rvs++qI b a:=by
 unfold qI;rw[Bi h.z];simp
def Ms{fs:Θ}(h:rvs.j=fs.j):(qI fs rvs).j=fs.j*3:=by
 induction fs generalizing rvs with
 |nil=>simp[qI]
 |cons f fs a=>
  rcases rvs with _|⟨r,rvs⟩;simp at h;have:=a (rvs:=rvs) (by simpa using h);unfold qI at this ⊢;simp only[ny,nM,yN,xt];rw[this];simp[UE];omega
def mB:∀(fs:Θ) (a:Γ) (i c:Nat) (h:i<fs.j) (d:i<a.j),c<3->(qI fs a)[i*3+c]?=(UE fs[i] a[i])[c]?
 |f::fs,g::a,0,c,_,_,b=>by
  have e:qI (f::fs) (g::a)=UE f g++qI fs a:=by simp[qI]
  rw[e,rV (by simp[UE];omega)];simp
 |f::fs,g::a,i+1,c,h,d,b=>by
  have e:qI (f::fs) (g::a)=UE f g++qI fs a:=by simp[qI]
  have l:(UE f g).j=3:=by simp[UE]
  rw[e,ff (by rw[l];omega),l,show(i+1)*3+c-3=i*3+c by omega];exact mB fs a i c (by simpa using h) (by simpa using d) b
def yX(z:Nat->Prop)(lo:Nat)(w:U)(v:O)(fs:List z9):Prop:=∃rvs:List O,rvs.j=fs.j/\w.r lo 56 3 v fs.j (qI fs rvs)/\∀i (h:i<fs.j) (a:i<rvs.j),Us z w rvs[i] fs[i].2.1
def yX.nil(lo:Nat)(w:U):yX z lo w (ν) []:=⟨[],rfl,xp _ _ _ _,λi h=>by cases h⟩
def yX.u{lo:Nat}{w w':U}{v:O}{fs:Θ}(h:yX z lo w v fs)(c:μ w w'):yX z lo w' v fs:=by
 obtain⟨rvs,f,e,d⟩:=h;exact⟨rvs,f,zy e c,λi a b=>(d i a b).u c⟩
def yX.low{a:Nat}{v:O}{fs:Θ}(h:yX z lo w v fs)(b:a<=lo):yX z a w v fs:=by
 obtain⟨rvs,d,c,e⟩:=h;exact⟨rvs,d,yo c b,e⟩
def yX.saveT{lo:Nat}{w w':U}{v:O}{fs:Θ}{M:Φ}{T:TypeId}(h:yX z lo w v fs)(hs:zd M w w')(c:T2 w T M)(j:56≠T)(g:9≠T):yX z lo w' v fs:=by
 obtain⟨rvs,e,f,d⟩:=h;exact⟨rvs,e,yJ f hs c j,λi a b=>(d i a b).saveT hs c g⟩
def yX.facts{v:O}{fs:Θ}(h:yX z lo w v fs):pi w v fs:=by
 obtain⟨rvs,n,f,m⟩:=h;by_cases j:0<fs.j;obtain⟨g,b,d,_,k,e⟩:=yr f j;refine⟨_,b,d,λi c=>?_⟩;have a:i<rvs.j:=η;refine⟨g,rvs[i],0,rfl,k,e (i*3) _ ?_,e (i*3+1) _ ?_,e (i*3+2) _ ?_,(m i c a).1⟩;rw[show i*3=i*3+0 from rfl,mB _ _ _ _ c a η];rfl;rw[mB _ _ _ _ c a η];rfl;rw[mB _ _ _ _ c a η];rfl;obtain⟨l,b,d⟩:=zr f;exact⟨l,b,d,λi c=>zB c η⟩
section
variable {ops:Array Oper} {rest:List Oper} {o:Oper} {a:Act} {Q:Exit->Act->U->Prop}
def EW{B:Nat}(p:o.guard=Y)(s x:Operand)
  (V:o.op=.call {callee:=.builtin .append,args:=#[s,x],argTypes:=#[52,52]})
  (l g:Θ) (r P:O) (M:a.eval s=r) (hx:a.eval x=P) (h1:yX z lo w r l) (h2:yX z B w P g) (hl:l.j+g.j<=1000000000000) (I:lo<=w.o.q)
  (h:∀J K,yX z lo K J (l++g)->zd r.m.v w K->wpList prog ops Q rest (a.put o.dst J) K):
  wpList prog ops Q (o::rest) a w:=by
 obtain⟨T,R,H,v,A⟩:=info_parts SF;obtain⟨rvs,t,n,W⟩:=h1;obtain⟨b,L,b2,S⟩:=h2;have q:∀u∈qI g b,u.oneCell'=true:=by
  intro u i;obtain⟨f,hf,i⟩:=List.mem_flatten.1 i;obtain⟨j,d,rfl⟩:=vL.1 hf;rw[List.getElem_zipWith] at i;simp only[List.length_zipWith] at d;obtain⟨ao,aa,e⟩:=(S j η η).1.qy;unfold UE at i;rw[e] at i;simp only[zG,nB,or_false] at i;rcases i with rfl|rfl|rfl<;>simp[O.oneCell']
 obtain⟨_,⟨y,hn⟩|⟨N,m,ae,y,ab,hh,af,ad,ac,F⟩⟩:=id b2;have G:g=[]:=lP hn;refine wpList_append_own_none p s x 52 V lo 56 T 3 underlying52 R _ _ _ M n (by rw[hx,y]) ?_;refine h _ _ ?_ (zd.refl _ _);rw[G,qb];exact⟨rvs,t,n,W⟩;have D:∀j u,(qI g b)[j]?=Z u->w.p (Addr.add (δ N) j)=Z u:=λj u d=>by
  rw[Addr.add_lit,vx];unfold U.cell?;rw[hh];simp only;rw[←F,nc] at d;split at d;simpa using d;simp at d
 refine wpList_append_own _ p s x 52 V lo 56 T _ 3 48 underlying52 R H v A rfl θ _ _ _ M n (δ N) g.j m (qI g b) (by rw[hx,y]) (Ms L) D q b_ η I ?_;intro J w2 C c _;have E:zd r.m.v w w2:=⟨c.os,c.tape,c.output,c.q,λk hk hm=>c.block k hk λe=>hm (by rw[←e];simp)⟩;refine h _ _ ⟨rvs++b,by simp[t,L],by rw[yN,N0 t];exact C,λj q1 q2=>?_⟩ E;by_cases d:j<l.j;simp only[uH d,uH (show j<rvs.j by omega)];exact(W j d η).saveT E (T2.own n) θ;simp only[yN] at q1 q2;simp only[lB (show l.j<=j by omega),lB (show rvs.j<=j by omega),t];exact(S _ η η).saveT E (T2.own n) θ
def yX.one{b:Nat}{f:z9}{c:O}(g:Th w b (UE f c).F 56)(e:Us z w c f.2.1):yX z 0 w (.k (Z (δ b)) 1 1) [f]:=by
 refine⟨[c],rfl,⟨by simp[qI,UE],ze ⟨b,1,(UE f c).F,rfl,zs _,g,zg _,by unfold maxLen;omega,by simp[UE],by simp[qI,UE]⟩⟩,λi d h=>?_⟩;obtain rfl:i=0:=by simp at d;exact d
 exact e
end
def E5(w:U)(E l:Nat)(fv lv y:O)(fs c:Θ)(b:ByteArray)(row:κ)(R:Th w E #[fv,ι l] 54)(hf:pi w fv fs)(S:yX z lo w lv c)(H:Us z w y row)(aj:fs.j<=10000000)(au:c.j<1000000000000)(ar:row.j<=1000000)(M:∀f∈fs,f.2.1.j<=1000000)(I:∀f∈c,f.2.1.j<=1000000)(ag:lo<=w.o.q):
  Calls prog 123 #[(π E),lv,.d b,y] w λe w'=>∃v,e=.returned v/\X (yX z lo w' v (uw fs c (b,row,l)))/\X (zd lv.m.v w w'):=by
 obtain⟨J,s,rfl⟩:=H.1.qy;have K:=Tg (A9 w E l fv fs b _ row R hf H.1 aj η M);have am:X (∀W,μ w W->W.p (ω E 1)=Z (ι l)/\E<W.o.q):=λW m=>⟨by rw[(R.u m).H.1];rfl,(R.u m).lt⟩;have ad:=Tg λW lo va (a:κ) (m:μ w W) (ha:Tn lo W va a) (hq:a.j<=1000000)=>EO W va _ a row ha (H.1.u m) hq η;have C:=Tg λW (m:μ w W)=>S.u m;have V:=Tg λW (m:μ w W)=>H.u m;have T:=Tg I;obtain⟨ao,aq,rfl,_⟩:=S.facts;have HC:X (∀W i (h:i<c.j),μ w W->∃g y lo,ao=Z (δ g)/\g<W.o.q/\W.p (ω g (i*3))=Z (.d c[i].1)/\W.p (ω g (i*3+1))=Z y/\Tn lo W y c[i].2.1):=λW i h m=>by
  obtain⟨aw,an,e,q⟩:=(S.u m).facts;cases e;obtain⟨g,y,lo,r1,r2,r3,r4,_,r6⟩:=q i h;exact⟨g,y,lo,r1,r2,r3,r4,r6⟩
 have t:X ((yP b row fs).I=true↔0<=kl b row fs):=by
  unfold X kl;rcases yP b row fs with _|z;simp;simp
 have ai:X ((yP b row fs).I=true->uw fs c (b,row,l)=c):=λq=>zb (zh q);have af:X ((yP b row c).I=true->uw fs c (b,row,l)=c):=λq=>zb (ze q);have aa:X (¬(yP b row fs).I=true->¬(yP b row c).I=true->uw fs c (b,row,l)=c++[(b,row,l)]):=λq1 q2=>za (by rintro(z|z);exact q1 z;exact q2 z);clear R hf S H M I;generalize uw fs c (b,row,l)=ax at *;generalize (yP b row fs).I=fb at *;generalize kl b row fs=fi at *;by_cases G:0<=fi
 .have F:=Tg (ai.l (t.l.2 G));go_enter func123,ntmps123;go_wp2_with (go_at_call 45;refine K.l.y ?_;rintro e w1 ⟨rfl,n⟩)
  go_ret;exact⟨_,rfl,by rw[X,F.l];exact C.l _ n,zd.of n⟩
 have ab:X (¬fb=true):=λq=>G (t.l.1 q);have H0:X (yP b row c=(yP b row (c.drop 0)).map (·+0)):=show yP b row c=_ by simp
 generalize yP b row c=p at *;go_enter func123,ntmps123;go_wp2_with (go_at_call 45;refine K.l.y ?_;rintro e w1 ⟨rfl,n⟩)
 go_loopw [10,11] (λi _ wr=>∃k:Nat,k<=c.j/\i=ι k/\X (p=(yP b row (c.drop k)).map (·+k))/\μ w wr) (λi _ _=>c.j-(intOf i).D);exact⟨0,zs _,rfl,H0,n⟩;obtain⟨k,hk,rfl,HK,d⟩:=hrel;by_cases u:k<c.j
 .have N:(k:Int)<(c.j:Int):=η;obtain⟨g,av,ae,rfl,hg,c0,c1,hS⟩:=HC.l wr k u d;have q:=HK.l;rw[FY u] at q;have D:=Tg q;clear q HK;have P:=Tg (ad.l wr ae _ _ d hS (T.l _ (zq u)));clear hS;generalize c[k].2.1=fr at *;generalize c[k].1=fp at *;by_cases x:fp=b
  .have ak:=jt x;by_cases j:fr=row
   .have B:X (p=Z k):=show p=Z k by rw[D.l,zb ⟨x,j⟩];simp
    have F:=Tg (af.l (by rw[B.l];rfl));rw[show decide (fr=row)=true by simp[j]] at P;clear D x j;go_wp2_with (go_at_call 84;refine P.l.y ?_;rintro e w3 ⟨rfl,r⟩)
    go_ret;exact⟨_,rfl,by rw[X,F.l];exact C.l _ (Tk d r),zd.of (Tk d r)⟩
   have B:X (p=(yP b row (c.drop (k+1))).map (·+(k+1))):=show p=_ by
    rw[D.l,za (λz=>j z.2),Option.map_map];congr 1;funext z;simp only[Function.comp];omega
   rw[show decide (fr=row)=false by simp[j]] at P;clear D x j;go_wp2_with (go_at_call 84;refine P.l.y ?_;rintro e w3 ⟨rfl,r⟩)
   exact⟨⟨k+1,η,ξ,B,Tk d r⟩,by simp[intOf];omega⟩
  have ak:=vV x;have B:X (p=(yP b row (c.drop (k+1))).map (·+(k+1))):=show p=_ by
   rw[D.l,za (λz=>x z.1),Option.map_map];congr 1;funext z;simp only[Function.comp];omega
  clear D x;go_wp2;exact⟨⟨k+1,η,ξ,B,d⟩,by simp[intOf];omega⟩
 have N:¬(k:Int)<(c.j:Int):=η;have B:X (p=Y):=show p=Y by
  rw[HK.l,ui η];rfl
 have F:=Tg (aa.l ab.l (by rw[B.l];simp));obtain⟨c1,ap⟩:=am.l _ d;have hu:μ wr (wr.C (.E #[.d b,.k J row.j s,ι l] 56)):=(zn _ _).C (zg _) _;have A:=Tk d hu;have HX:=Tg (yX.one (f:=(b,row,l)) (Th.new wr (UE (b,row,l) (.k J row.j s)).F 56) (V.l _ A));have ac:=Tg (C.l _ A);have L:=Tg A;go_wp2_with (at_builtin;refine EW rfl (.tmp 41) (.tmp 49) rfl _ _ _ _ rfl rfl ac.l HX.l υ (zY ag L.l.q) ?_;intro v8 w8 ah al)
 go_ret;exact⟨_,rfl,by rw[X,F.l];exact ah,(zd.of L.l).A al⟩
end
section
open Go.Proofs.Tryz
variable {z:Nat->Prop}{cs:List zc}{t:List zf}
def l8.clr{w:U}{g o:Nat}{c:zc}{f:Option Addr}{cap:Nat}{d:Option Addr}{a:Nat}(h:l8 w g o c f cap d a)(i:∀b,(O.slice f c.g.k.j cap).m=Z b->¬z b):Vj z w g o c:=by
 refine⟨h.lt,h.c1,⟨_,h.c2,h.k,i⟩,d,a,h.c3,λj r=>?_⟩;obtain⟨p,l,e,n,s,k,u,q,m⟩:=h.d.cell j r;exact⟨p,n,s,k,u,_,q,m⟩
structure Vq (z:Nat->Prop) (w:U) (pb:Nat) (ao:Option Addr) (cap:Nat) (aop:Option Addr) (capp:Nat) (aok:Option Addr) (capk:Nat) (cs:List zc) (t:List zf):Prop where
 box:Th w pb #[.k ao cs.j cap,.k aop t.j capp,.k aok t.j capk] 45
 cl:∀i (h:i<cs.j),∃g,ao=Z ⟨g,0,Y⟩/\Vj z w g (i*4) cs[i]
 names:Tn 0 w (.k aop t.j capp) (Ti t)
 strata:∀i (h:i<t.j),∃g,aok=Z ⟨g,0,Y⟩/\g<w.o.q/\w.p ⟨g,i,Y⟩=Z (ι (t[i].L:Nat))
def Vq.u{w w':U}{pb:Nat}{l:Option Addr}{cap:Nat}{d:Option Addr}{b:Nat}{c:Option Addr}{a:Nat}{cs:Ξ}{t:Ψ}(h:Vq z w pb l cap d b c a cs t)(e:μ w w'):Vq z w' pb l cap d b c a cs t:=by
 refine⟨h.box.u e,λi k=>?_,h.names.u e,λi k=>?_⟩;obtain⟨g,j,f⟩:=h.cl i k;exact⟨g,j,f.u e⟩;obtain⟨g,j,f,m⟩:=h.strata i k;exact⟨g,j,ym f e.q,(zi e f m)⟩
def jG.read{lo:Nat}{s w:U}{pb:Nat}(D:jG lo s pb cs t)(hs:Ug lo s w)(L:∀b,z b->b<lo∨s.o.q<=b):∃q d h c f a,Vq z w pb q d h c f a cs t:=by
 obtain⟨_,cv,pv,kv,k,x,r,B⟩:=D.same hs;obtain⟨q,d,rfl⟩:=x.qy;obtain⟨h,c,rfl⟩:=r.qy;obtain⟨f,a,rfl⟩:=zr B;have e:(Ti t).j=t.j:=by simp[Ti]
 rw[e] at k r;refine⟨q,d,h,c,f,a,k,λi j=>?_,yo r (zs _),λi j=>?_⟩;obtain⟨g,aa,v,Q,A,u,G⟩:=x.at i j;refine⟨g,u,G.clr ?_⟩;obtain⟨V,T,R,ab,k1,K,_,_⟩:=D;have l:=k1.same V hs;rw[Th] at k l;rw[k] at l;simp only[zt,Obj.cells.injEq,Array.mk.injEq,m4,and_true] at l;have S:=l.1.z;subst S;obtain⟨g',I,p,y,n,C,P,_,_,N,_,H,_⟩:=K.cell i j;rw[u] at C;cases C;have o:lo<=g:=by
  obtain⟨xs,E,_⟩:=K;rw[u] at E;exact yU E rfl
 have m:w.p (ω g (i*4+2))=s.p (ω g (i*4+2)):=by simp[U.cell?,hs g o P]
 rw[G.c2,N] at m;rw[zt] at m;rw[m];intro b J W;have a1:=yU H J;have a2:=yG H J;have a3:=L b W;omega;obtain⟨g,F,M,_,o,hc⟩:=yr B η;cases M;refine⟨g,rfl,o,hc i _ ?_⟩;simp[j,TN]
def ig(a:uh cs t){c:zc}(m:c∈cs):lc (Ti t) c.g.o=(zC t c.g.o:Nat)/\∃h:zC t c.g.o<t.j,t[zC t c.g.o].L=xP t c.g.o:=by
 obtain⟨b,n,f,o⟩:=a.lit c m c.g (by simp[zm]);have j:c.g.o∈Ti t:=by
  rw[←f,(gX a.rise b).2];exact zF.2 ⟨_,zq _,rfl⟩
 obtain⟨k,p,g⟩:=ew j;obtain⟨l,i⟩:=lN g;have d:k<t.j:=by simpa [Ti] using l
 have e:zC t c.g.o=k:=by
  have q:=gX a.rise d;have:vh t k=c.g.o:=by
   rw[q.2,←i];simp[Ti]
  rw[←this];exact q.1
 refine⟨by unfold lc;rw[g,e],b,?_⟩;have q:=(o7 a.rise b).1;rw[←(gX a.rise b).2,f] at q;unfold xP;rw[q]
def oX{s i:Nat}(a:i<cs.j):yw t (cs.G (i+1)) s=if xP t cs[i].g.o=s/\0<cs[i].d.j then yw t (cs.G i) s++[cs[i]] else yw t (cs.G i) s:=by
 unfold yw;rw[yM a,wa];by_cases q:xP t cs[i].g.o=s/\0<cs[i].d.j;rw[zb q,List.filter_cons_of_pos (by simpa using q),List.filter_nil];rw[za q,List.filter_cons_of_neg (by simpa using q),List.filter_nil,qb]
def OK{s i:Nat}(d:i<cs.j)(q:xP t cs[i].g.o=s/\0<cs[i].d.j):(yw t cs s).isEmpty=false:=by
 have:cs[i]∈yw t cs s:=xz.2 ⟨zq d,decide_eq_true q⟩;rcases c:yw t cs s with _|⟨a,b⟩;rw[c] at this;cases this;rfl
def LK(w:U)(pb:Nat)(F:Option Addr)(cap:Nat)(H:Option Addr)(r:Nat)(n:Option Addr)(k:Nat)(cs:Ξ)(t:Ψ)(s:Nat)(h:Vq z w pb F cap H r n k cs t)(M:uh cs t)(hl:cs.j<=1000)(ht:t.j<=1000)(o:∀c∈cs,xP t c.g.o<=1000)(hs:s<=1000):
  Calls prog 124 #[(π pb),ι s] w λe I=>e=ε (.i (!(yw t cs s).isEmpty))/\I=w:=by
 have G:X (∀c∈cs,Calls prog 111 #[(π pb),.d c.g.o] w λe I=>e=ε (ι (zC t c.g.o:Nat))/\I=w):=λc D=>by
  have:=nW w pb _ _ _ (Ti t) c.g.o h.box h.names (by simp[Ti];omega);rw[(ig M D).1] at this;exact this
 have J:X (∀c∈cs,zC t c.g.o<t.j/\∃g,n=Z (δ g)/\g<w.o.q/\w.p (ω g (zC t c.g.o))=Z (ι (xP t c.g.o:Nat))):=λc D=>by
  obtain⟨l,j⟩:=(ig M D).2;obtain⟨g,r1,W,V⟩:=h.strata _ l;exact⟨l,g,r1,W,by rw[V,j]⟩
 have C:X (∀i (f:i<cs.j),∃g,F=Z (δ g)/\g<w.o.q/\w.p (ω g (i*4+1))=Z (.d cs[i].g.o)/\∃v u,w.p (ω g (i*4+3))=Z (.k v cs[i].d.j u)):=λi f=>by
  obtain⟨g,l,j⟩:=h.cl i f;obtain⟨v,u,q3,_⟩:=j.d;exact⟨g,l,j.lt,j.o,v,u,q3⟩
 have p:=Tg o;have b0:w.p (δ pb)=Z (.k F cs.j cap):=by rw[h.box.H.1];rfl
 have b2:w.p (ω pb 2)=Z (.k n t.j k):=by rw[h.box.H.1];rfl
 have ag:=h.box.lt;have HE:X (yw t cs s=yw t (cs.G cs.j) s):=by rw[X,uW]
 have L:X (∀i (f:i<cs.j),xP t cs[i].g.o=s->0<cs[i].d.j->(yw t cs s).isEmpty=false):=λi f l j=>OK f ⟨l,j⟩;have K:X (∀i (f:i<cs.j),¬(xP t cs[i].g.o=s/\0<cs[i].d.j)->yw t (cs.G i) s=[]->yw t (cs.G (i+1)) s=[]):=λi f l j=>by rw[oX f,za l,j]
 clear h M o;generalize yw t cs s=af at *;go_enter func124,ntmps124;go_wp2;go_loopw [5,6] (λy _ wr=>∃i:Nat,i<=cs.j/\y=ι i/\X (yw t (cs.G i) s=[])/\wr=w) (λy _ _=>cs.j-(intOf y).D);exact⟨0,zs _,rfl,rfl,rfl⟩;obtain⟨i,f,rfl,E,x⟩:=hrel;obtain rfl:=x.z;by_cases d:i<cs.j
 .have N:(i:Int)<(cs.j:Int):=η;obtain⟨g,rfl,hg,c1,v,u,c3⟩:=C.l i d;have a:=zq d;obtain⟨aa,gk,rfl,ac,ck⟩:=J.l _ a;have A:=Tg (G.l _ a);have ab:=p.l _ a;have ad:((zC t cs[i].g.o:Nat):Int)<(t.j:Int):=η;have H1:=Tg (L.l i d);have R:=Tg (K.l i d);clear a;generalize cs[i].d.j=bl at *;generalize xP t cs[i].g.o=T at *;generalize zC t cs[i].g.o=fk at *;generalize cs[i].g.o=pr at *;by_cases S:T=s
  .subst S;by_cases P:0<bl
   .have B:(0:Int)<(bl:Int):=η;have m:=Tg (H1.l rfl P);go_wp2_with (go_at_call 111;refine A.l.y ?_;rintro e Q ⟨rfl,b⟩;obtain rfl:=b.z)
    go_ret;exact⟨by rw[m.l];rfl,rfl⟩
   have B:¬(0:Int)<(bl:Int):=η;have m:=Tg (R.l (λq=>P q.2) E.l);go_wp2_with (go_at_call 111;refine A.l.y ?_;rintro e Q ⟨rfl,b⟩;obtain rfl:=b.z)
   go_roundw;exact⟨i+1,η,ξ,m,trivial⟩;simp[intOf];omega
  have ae:¬((T:Int)=(s:Int)):=η;have m:=Tg (R.l (λq=>S q.1) E.l);go_wp2_with (go_at_call 111;refine A.l.y ?_;rintro e Q ⟨rfl,b⟩;obtain rfl:=b.z)
  go_roundw;exact⟨i+1,η,ξ,m,trivial⟩;simp[intOf];omega
 have N:¬(i:Int)<(cs.j:Int):=η;obtain rfl:i=cs.j:=η;have m:=Tg (HE.l.A E.l);go_wp2;go_ret;exact⟨by rw[m.l];rfl,rfl⟩
end
section
open Go.Proofs.Tryz
variable {z:Nat->Prop}
def G6(fs l:Θ)(f:z9):l.j<=(uw fs l f).j:=by
 unfold uw;split<;>simp
def eK{α:Type}(g:Θ->α->Θ)(b:∀l x,l.j<=(g l x).j):∀(a:List α) (l:Θ),l.j<=(a.H g l).j
 |[],_=>zg _
 |x::a,l=>zY (b l x) (eK g b a (g l x))
def Q1{α:Type}(g:Θ->α->Θ)(b:∀l x,l.j<=(g l x).j)(a:List α)(l:Θ)(k:Nat):((a.G k).H g l).j<=(a.H g l).j:=by
 conv=>rhs;rw[←kj k a,qZ]
 exact eK g b _ _
def RH(fs:Θ)(k:Nat)(a:Ξ)(l:Θ):l.j<=(xX fs k a l).j:=eK _ (λl _=>eK _ (λl _=>G6 fs l _) _ l) a l
def EK(fs:Θ)(k:Nat)(a b:Ξ)(l:Θ):xX fs k (a++b) l=xX fs k b (xX fs k a l):=by
 unfold xX;rw[qZ]
def P2(fs:Θ)(k:Nat)(t:Ψ)(cs:Ξ)(s i:Nat):(xX fs k (yw t (cs.G i) s) []).j<=(xX fs k (yw t cs s) []).j:=by
 have:yw t cs s=yw t (cs.G i) s++yw t (cs.drop i) s:=by
  unfold yw;rw[←wa,kj]
 rw[this,EK];exact RH _ _ _ _
def Bw{fs:Θ}{h:zj}{body:Ω}:∀(rest:Ω) (B:yB) (r:κ),r∈yt fs h body rest B->r.j=h.k.j
 |[],B,r,a=>by
  unfold yt at a;split at a
  .cases a
  .rw[xQ.1 a];simp[yO]
 |l::rest,B,r,a=>by
  unfold yt at a;split at a
  .exact Bw rest B r a
  .obtain⟨f,_,a⟩:=ve.1 a;split at a
   .split at a
    .cases a
    .exact Bw rest _ r a
   .cases a
def LU{fs l:Θ}{f:z9}{n:Nat}(b:∀g∈l,g.2.1.j<=n)(c:f.2.1.j<=n):∀g∈uw fs l f,g.2.1.j<=n:=by
 intro g a;unfold uw at a;split at a;exact b g a;rcases ya.1 a with q|q;exact b g q;rw[xQ.1 q];exact c
def oz{fs:Θ}{n:Nat}{p:ByteArray}{k:Nat}:∀(rs:List (κ)) (l:Θ),(∀g∈l,g.2.1.j<=n)->(∀r∈rs,r.j<=n)->∀g∈rs.H (λl r=>uw fs l (p,r,k)) l,g.2.1.j<=n
 |[],_,a,_=>a
 |r::rs,l,a,b=>oz rs _ (LU a (b r ζ)) (λx c=>b x (by simp[c]))
def NJ(w:U)(pb mb n s:Nat)(fv:O)(ao:Option Addr)(cap:Nat)(aG:Option Addr)(aC:Nat)(aj:Option Addr)(T:Nat)(cs:Ξ)(t:Ψ)(fs:Θ)(h:Vq z w pb ao cap aG aC aj T cs t)(hz:Uj z w.o.q)(hm:Th w mb #[fv,ι n] 54)(hf:pi w fv fs)(hx:uh cs t)(hl:cs.j<=1000)(ht:t.j<=1000)(a7:∀c∈cs,xP t c.g.o<=1000)(hs:s<=1000)(a2:∀c∈cs,c.d.j<=30)(an:∀c∈cs,∀l∈zm c,l.k.j<=3/\∀a∈l.k,0<a.q)(a3:fs.j<=10000000)(al:∀f∈fs,f.2.1.j<=1000000)(hF:tG cs fs)(a9:(xX fs n (yw t cs s) []).j<1000000000000)(ak:∀c∈cs,(yt fs c.g c.d c.d []).j<=1000000000000):
  Calls prog 125 #[(π pb),(π mb),ι s] w λe A=>∃v,e=.returned v/\X (yX z w.o.q A v (xX fs n (yw t cs s) []))/\X (μ w A):=by
 have aF:X (∀W c,μ w W->c∈cs->Calls prog 111 #[(π pb),.d c.g.o] W λe A=>e=ε (ι (zC t c.g.o:Nat))/\A=W):=λW c m hc=>by
  have:=nW W pb _ _ _ (Ti t) c.g.o (h.u m).box (h.u m).names (by simp[Ti];omega);rw[(ig hx hc).1] at this;exact this
 have aT:X (∀W c,μ w W->c∈cs->zC t c.g.o<t.j/\∃g,aj=Z ⟨g,0,Y⟩/\g<W.o.q/\W.p ⟨g,zC t c.g.o,Y⟩=Z (ι (xP t c.g.o:Nat))):=λW c m hc=>by
  obtain⟨D,F⟩:=(ig hx hc).2;obtain⟨g,r1,r2,r3⟩:=(h.u m).strata _ D;exact⟨D,g,r1,r2,by rw[r3,F]⟩
 have a4:X (∀W i (B:i<cs.j),μ w W->∃g,ao=Z ⟨g,0,Y⟩/\g<W.o.q/\g<w.o.q/\Vj z W g (i*4) cs[i]):=λW i B m=>by
  obtain⟨g,D,F⟩:=h.cl i B;exact⟨g,D,ym F.lt m.q,F.lt,F.u m⟩
 have aX:X (∀W,μ w W->W.p ⟨pb,0,Y⟩=Z (.k ao cs.j cap)/\W.p ⟨pb,2,Y⟩=Z (.k aj t.j T)/\pb<W.o.q):=λW m=>⟨by rw[(h.u m).box.H.1];rfl,by rw[(h.u m).box.H.1];rfl,(h.u m).box.lt⟩;have ay:X (∀W i (B:i<cs.j) g,μ w W->Vj z W g (i*4) cs[i]->Calls prog 166 #[(π mb),.u (Z ⟨g,i*4,Y⟩),ι 0,.agg #[ν,ν]] W λe A=>∃v,e=.returned v/\X (x6 z W.o.q A v (yt fs cs[i].g cs[i].d cs[i].d []))/\X (μ W A)):=λW i B g m hc=>by
  have j:=zq B;exact Gk mb n g (i*4) fv cs[i] fs (a2 _ j) (an _ j) a3 al (λf hf l hl e=>hF.jh f hf _ j l hl e.z) hF.ne cs[i].d 0 W _ _ [] (zs _) rfl ζ (λv x q=>by cases q) (ak _ j) ⟨hm.u m,hf.u m,hc,Tn.nil W,Tn.nil W,hz.up m.q⟩
 have R:=Tg λW M rv a0 row (ls:Θ) (m:μ w W) (h1:yX z w.o.q W M ls) (h2:Us z W rv row) (h3:ls.j<1000000000000) (h4:row.j<=1000000) (h5:(∀f∈ls,f.2.1.j<=1000000))=>E5 W mb n fv M rv fs ls a0 row (hm.u m) (hf.u m) h1 h2 a3 h3 h4 al h5 m.q;have au:=Tg a7;have HE:X (xX fs n (yw t cs s) []=xX fs n (yw t (cs.G cs.j) s) []):=by rw[X,uW]
 have aQ:=Tg λi=>Nat.lt_of_le_of_lt (P2 fs n t cs s i) a9;have aU:X (∀i (B:i<cs.j),xP t cs[i].g.o=s->0<cs[i].d.j->xX fs n (yw t (cs.G (i+1)) s) []=(yt fs cs[i].g cs[i].d cs[i].d []).H (λl r=>uw fs l (cs[i].g.o,r,n)) (xX fs n (yw t (cs.G i) s) [])):=λi B D F=>by
  rw[oX B,zb ⟨D,F⟩,EK];rfl
 have bc:X (∀i (B:i<cs.j),¬(xP t cs[i].g.o=s/\0<cs[i].d.j)->xX fs n (yw t (cs.G (i+1)) s) []=xX fs n (yw t (cs.G i) s) []):=λi B D=>by rw[oX B,za D]
 have aO:X (∀i (B:i<cs.j),∀r∈yt fs cs[i].g cs[i].d cs[i].d [],r.j<=1000000):=λi B r hr=>by
  rw[Bw _ _ r hr];have:=(an _ (zq B) cs[i].g (by simp[zm])).1;omega
 have bb:=Tg ak;clear h hm hf hx a7 a2 an al hF a9 ak;generalize xX fs n (yw t cs s) []=bq at *;go_enter func125,ntmps125;go_wp2;go_loopw [7,8,9,10,11,12] (λv7 v8 _ _ _ _ wr=>∃i:Nat,i<=cs.j/\v8=ι i/\X (yX z w.o.q wr v7 (xX fs n (yw t (cs.G i) s) []))/\X (∀f∈xX fs n (yw t (cs.G i) s) [],f.2.1.j<=1000000)/\X (μ w wr)) (λ_ v8 _ _ _ _ _=>cs.j-(intOf v8).D);exact⟨0,zs _,rfl,yX.nil _ _,λf hf=>(by cases hf),zn _ _⟩;obtain⟨i,B,rfl,J,N,o⟩:=hrel;obtain⟨b0,b2,aR⟩:=aX.l _ o.l;by_cases C:i<cs.j
 .have aI:(i:Int)<(cs.j:Int):=η;have j:=zq C;obtain⟨g,rfl,hg,bn,K⟩:=a4.l _ i C o.l;have HC:=Tg K;obtain⟨be,gk,rfl,aN,ck⟩:=aT.l _ _ o.l j;have HP:=Tg (aF.l _ _ o.l j);have bp:=au.l _ j;have bk:((zC t cs[i].g.o:Nat):Int)<(t.j:Int):=η;have c1:=K.o;obtain⟨ab,cb,c3⟩:∃ab cb,wr.p ⟨g,i*4+3,Y⟩=Z (.k ab cs[i].d.j cb):=by
   obtain⟨ab,cb,c3,_⟩:=K.d;exact⟨ab,cb,c3⟩
  have H1:=Tg (aU.l i C);have H2:=Tg (bc.l i C);have az:=Tg (aQ.l (i+1));have aB:=Tg (ay.l wr i C g o.l K);have af:=Tg (aO.l i C);have aV:=Tg (bb.l _ j);have aw:X (∀W,μ w W->g<W.o.q/\W.p ⟨g,i*4+1,Y⟩=Z (.d cs[i].g.o)):=λW m=>by
   obtain⟨g',e,D,_,F⟩:=a4.l W i C m;cases e;exact⟨D,F.o⟩
  clear j K HC;obtain⟨nx,ac⟩:∃nx,xX fs n (yw t (cs.G (i+1)) s) []=nx:=⟨_,rfl⟩;rw[ac] at H1 H2 az;have E:=Tg ac;clear ac;generalize xX fs n (yw t (cs.G i) s) []=S at *;generalize yt fs cs[i].g cs[i].d cs[i].d []=d at *;generalize cs[i].d.j=bl at *;generalize xP t cs[i].g.o=sk at *;generalize zC t cs[i].g.o=fk at *;generalize cs[i].g.o=G at *;by_cases h1:sk=s
  .subst h1;by_cases h2:0<bl
   .have aK:¬((bl:Int)=0):=η;have HN:=Tg (H1.l rfl h2);have bo:=aV.l;go_upto_region 9 with (first|(go_at_call 166;refine aB.l.y ?_;rintro e w2 ⟨aE,rfl,aa,ag⟩)|(go_at_call 111;refine HP.l.y ?_;rintro e w1 ⟨rfl,L⟩;obtain rfl:=L.z))
    have a8:=Tg (J.l.u ag.l);have aq:=Tg (Tk o.l ag.l);clear HP aB b0 b2 aR hg aN ck c1 c3 H1 H2 J ag o;obtain⟨H,u,av⟩:∃H u,aE=.k H d.j u:=by
     obtain⟨_,_,q,_⟩:=aa.l;exact zr q
    subst av;go_wp2;go_loopw [7,12] (λv7 ae wz=>∃(k:Nat) (M:O),k<=d.j/\ae=ι k/\v7=M/\X (yX z w.o.q wz M ((d.G k).H (λl r=>uw fs l (G,r,n)) S))/\X (x6 z 0 wz (.k H d.j u) d)/\X (μ w wz)) (λ_ ae _=>d.j-(intOf ae).D);obtain⟨y,D,F,q3⟩:=aa.l;exact⟨0,_,zs _,rfl,rfl,a8,⟨y,D,yo F (zs _),q3⟩,aq⟩;clear a8 aq aa;obtain⟨k,M,hk,rfl,a5,a1,aA,am⟩:=hrel;obtain rfl:=a5.z;clear a5;by_cases ah:k<d.j
    .have aM:(k:Int)<(d.j:Int):=η;obtain⟨y,r1,r2,r3⟩:=aA.l;obtain⟨P,bf,aD,_,bh,V⟩:=yr r2 η;cases aD;have ad:k<y.j:=η;have bi:wr.p ⟨P,k,Y⟩=Z y[k]:=V k _ (by simp[ad]);obtain⟨hg,c1⟩:=aw.l _ am.l;have aS:X ((d.G (k+1)).H (λl r=>uw fs l (G,r,n)) S=uw fs ((d.G k).H (λl r=>uw fs l (G,r,n)) S) (G,d[k],n)):=by
      rw[X,yM ah,qZ];rfl
     have Q:((d.G k).H (λl r=>uw fs l (G,r,n)) S).j<1000000000000:=by
      refine Nat.lt_of_le_of_lt (Q1 _ (λl _=>G6 fs l _) d S k) ?_;rw[←HN.l];exact az.l
     have ap:=oz (fs:=fs) (p:=G) (k:=n) (d.G k) S N.l (λr hr=>af.l r (gH hr));have aJ:X (∀W,μ wr W->Calls prog 123 #[(π mb),M,.d G,y[k]] W λe A=>∃v,e=.returned v/\X (yX z w.o.q A v (uw fs ((d.G k).H (λl r=>uw fs l (G,r,n)) S) (G,d[k],n)))/\X (x6 z 0 A (.k (Z ⟨P,0,Y⟩) d.j u) d)/\X (μ w A)/\A.p ⟨P,k,Y⟩=Z y[k]/\A.p ⟨g,i*4+1,Y⟩=Z (.d G)):=λW m=>by
      have ai:=Tk am.l m;have ar:=a1.l.u m;refine(R.l W M y[k] G d[k] _ ai ar ((r3 k ah ad).u m) Q (af.l _ (zq ah)) ap).y ?_;rintro e A ⟨v,D,F,q3⟩;obtain⟨_,_,I,_⟩:=id ar;have hS:=q3.l;have ax:=hS.u (λb m=>yU I (xa m)) ai.q;have aL:=aA.l.u m;have a6:=ai.A ax;have ba:=yJ (zy r2 m) hS (T2.own I) θ;obtain⟨g',bg,e2,_,bm,aH⟩:=yr ba η;cases e2;exact⟨v,D,F,aL.saveT hS (T2.own I) θ θ,a6,aH k _ (by simp[ad]),(aw.l _ a6).2⟩
     clear r2 r3 V Q ap R;generalize y[k]=rv at *;go_upto_region 12 with fail
     go_region_held3 (λA=>A.p ⟨P,k,Y⟩=Z rv/\A.p ⟨g,i*4+1,Y⟩=Z (.d G)) (first|go_keep|(go_simp;done)) (first|(go_at_call 123;refine(aJ.l _ φ).y ?_;rintro e w5 ⟨v5,rfl,aY,bd,aW,z0,z1⟩))
     go_wp2;go_roundw;exact⟨k+1,_,η,ξ,rfl,by rw[aS.l];exact aY,bd,aW⟩;simp[intOf];omega
    have aM:¬(k:Int)<(d.j:Int):=η;obtain rfl:k=d.j:=η;have aP:X (yX z w.o.q wr M nx):=by
     have q:=a1.l;rw[uW,←HN.l] at q;exact q
    have aZ:X (∀f∈nx,f.2.1.j<=1000000):=by
     rw[HN.l];exact oz d S N.l af.l
    go_wp2;go_roundw;exact⟨i+1,η,ξ,by rw[E.l];exact aP,by rw[E.l];exact aZ,am⟩;simp[intOf];omega
   have aK:(bl:Int)=0:=η;have HF:=Tg (H2.l (λq=>h2 q.2));go_wp2_with (go_at_call 111;refine HP.l.y ?_;rintro e w1 ⟨rfl,L⟩;obtain rfl:=L.z)
   go_roundw;exact⟨i+1,η,ξ,by rw[E.l,HF.l];exact J,by rw[E.l,HF.l];exact N,o⟩;simp[intOf];omega
  have br:¬((sk:Int)=(s:Int)):=η;have HF:=Tg (H2.l (λq=>h1 q.1));go_wp2_with (go_at_call 111;refine HP.l.y ?_;rintro e w1 ⟨rfl,L⟩;obtain rfl:=L.z)
  go_roundw;exact⟨i+1,η,ξ,by rw[E.l,HF.l];exact J,by rw[E.l,HF.l];exact N,o⟩;simp[intOf];omega
 have aI:¬(i:Int)<(cs.j:Int):=η;obtain rfl:i=cs.j:=η;go_wp2;go_ret;exact⟨_,rfl,by rw[X,HE.l];exact J.l,o⟩
def r9(z:Nat->Prop)(w:U)(a:Option (List z9×Nat))(e:Ending)(w':U):Prop:=match a with
 |none=>e=ε (.u Y)/\X (μ w w')
 |some (L,k)=>∃b,e=ε ((π b))/\X (∃c,w.o.q<=b/\Th w' b #[c,ι k] 54/\yX z w.o.q w' c L)/\X (μ w w')
structure UH (z:Nat->Prop) (w wr:U) (mb:Nat) (fv:O) (L:List z9) (k:Nat):Prop where
 hmb:w.o.q<=mb
 box:Th wr mb #[fv,ι k] 54
 fl:yX z w.o.q wr fv L
 bel:μ w wr
def UH.u{w wr w':U}{c:Nat}{b:O}{L:Θ}{k:Nat}(h:UH z w wr c b L k)(a:μ wr w'):UH z w w' c b L k:=⟨h.hmb,h.box.u a,h.fl.u a,Tk h.bel a⟩
def UH.up{w wr:U}{a:Nat}{b:O}{L:Θ}{k:Nat}(h:UH z w wr a b L k):UH z w (wr.x (ω a 1) (ι ((k:Int)+1))) a b L (k+1):=by
 refine⟨h.hmb,?_,h.fl.saveT (zd.set _ _ _ _) (T2.box h.box) θ θ,h.bel.x h.hmb _⟩;have:=h.box.set 1 (ι ((k:Int)+1));simpa using this
def UH.put{w wr:U}{e:Nat}{h a:O}{g:Θ}{k:Nat}(c:w.o.q<=e)(b:Th wr e #[h,ι k] 54)(f:yX z w.o.q wr a g)(d:μ w wr):UH z w (wr.x (δ e) a) e a g k:=by
 refine⟨c,?_,f.saveT (zd.set _ _ _ _) (T2.box b) θ θ,d.x c _⟩;have:=b.set 0 a;simpa using this
def GL{cs:Ξ}{i:Nat}(a:i<cs.j):ue (cs.G (i+1))=if cs[i].d.j=0 then uw [] (ue (cs.G i)) (cs[i].g.o,cs[i].g.k,0) else ue (cs.G i):=by
 unfold ue;rw[yM a,wa];by_cases q:cs[i].d.j=0;rw[zb q,List.filter_cons_of_pos (by simpa using q),List.filter_nil,qF,qZ];rfl;rw[za q,List.filter_cons_of_neg (by simpa using q),List.filter_nil,qb]
def Mf(cs:Ξ):(ue cs).j<=cs.j/\∀f∈ue cs,∃c∈cs,f=(c.g.o,c.g.k,0):=by
 have:∀i,i<=cs.j->(ue (cs.G i)).j<=i/\∀f∈ue (cs.G i),∃c∈cs,f=(c.g.o,c.g.k,0):=by
  intro i;induction i with
  |zero=>intro _;exact⟨by simp[ue],λf a=>by simp[ue] at a⟩
  |succ i d=>
   intro g;obtain⟨e,b⟩:=d η;rw[GL η];split;unfold uw;split;exact⟨η,b⟩;refine⟨by simp;omega,λf a=>?_⟩;rcases ya.1 a with q|q;exact b f q;exact⟨cs[i],zq _,xQ.1 q⟩;exact⟨η,b⟩
 have h:=this cs.j (zg _);rw[uW] at h;exact h
def RY(w:U)(pb mr mx:Nat)(ao:Option Addr)(cap:Nat)(ae:Option Addr)(E:Nat)(aG:Option Addr)(T:Nat)(cs:Ξ)(t0 t:Ψ)(hz:Uj z w.o.q)(h:Vq z w pb ao cap ae E aG T cs t)(hp:Ty cs t0 t)(hx:uh cs t)(hl:cs.j<=1000)(ht:t.j<=1000)(aD:∀c∈cs,xP t c.g.o<=1000)(aX:∀c∈cs,c.d.j<=30)(aq:∀c∈cs,∀l∈zm c,l.k.j<=3/\∀a∈l.k,0<a.q)(bD:mr<=1048576)(bA:mx<=1048576)(al:∀L D,TW t (zp cs) L D->L.j<1000000000000/\∀c∈cs,(yt L c.g c.d c.d []).j<=1000000000000):
  Calls prog 76 #[(π pb),ι mr,ι mx] w λe I=>r9 z w (ynt t cs mr mx) e I:=by
 have b7:=Tg λW (o:μ w W)=>h.u o;have aF:X (∀W,μ w W->W.p ⟨pb,0,Y⟩=Z (.k ao cs.j cap)/\W.p ⟨pb,1,Y⟩=Z (.k ae t.j E)/\pb<W.o.q):=λW o=>⟨by rw[(h.u o).box.H.1];rfl,by rw[(h.u o).box.H.1];rfl,(h.u o).box.lt⟩;have aZ:X (∀W i (hi:i<cs.j),μ w W->∃g av ab cb,ao=Z ⟨g,0,Y⟩/\g<W.o.q/\g<w.o.q/\W.p ⟨g,i*4+1,Y⟩=Z (.d cs[i].g.o)/\W.p ⟨g,i*4+2,Y⟩=Z av/\Us z W av cs[i].g.k/\W.p ⟨g,i*4+3,Y⟩=Z (.k ab cs[i].d.j cb)):=λW i hi o=>by
  obtain⟨g,q1,q2⟩:=h.cl i hi;have q3:=q2.u o;obtain⟨av,q4,q5⟩:=q3.k;obtain⟨ab,cb,q6,_⟩:=q3.d;exact⟨g,av,ab,cb,q1,q3.lt,q2.lt,q3.o,q4,q5,q6⟩
 have bt:=Tg λW s o hs=>LK W pb ao cap ae E aG T cs t s (h.u o) hx hl ht aD hs;have bw:X (∀W s mb C L D k,UH z w W mb C L k->TW t (zp cs) L D->L.j<=1048576->s<=1000->Calls prog 125 #[(π pb),(π mb),ι (s:Nat)] W λe I=>∃v,e=.returned v/\X (yX z W.o.q I v (xX L k (yw t cs s) []))/\X (μ W I)):=λW s mb C L D k hM hR hL hs=>by
  have b4:=(al _ _ (hR.round hp hx s k).1).1;rw[yN] at b4;exact NJ W pb mb k s C ao cap ae E aG T cs t L (h.u hM.bel) (hz.up hM.bel.q) hM.box hM.fl.facts hx hl ht aD hs aX aq η (λf hf=>by
   obtain⟨p,bh,r,m,_,rfl⟩:=(hR.mem f).1 hf;simp only[kS];have:=hx.small p bh;omega) (hR.fs hx) η (al _ _ hR).2
 have aS:=Tg aq;have a9:X (ue cs=ue (cs.G cs.j)):=by rw[X,uW]
 have aE:X (∀i,(ue (cs.G i)).j<=1000/\∀f∈ue (cs.G i),f.2.1.j<=1000000):=λi=>by
  obtain⟨q1,q2⟩:=Mf (cs.G i);refine⟨by simp at q1;omega,λf hf=>?_⟩;obtain⟨c,hc,rfl⟩:=q2 f hf;have:=(aq c (gH hc) c.g (by simp[zm])).1;show c.g.k.j<=_;omega
 have aU:X (∀i (hi:i<cs.j),ue (cs.G (i+1))=if cs[i].d.j=0 then uw [] (ue (cs.G i)) (cs[i].g.o,cs[i].g.k,0) else ue (cs.G i)):=λi hi=>GL hi;have aT:=Tg (Dp hx);have ba:=Tg λL D s k (q:TW t (zp cs) L D)=>(q.round hp hx s k).1;have bq:=Tg λL D q=>(al L D q).1;have bd:X (ynt t cs mr mx=if (ue cs).j<=mr then zzk t cs mr mx t.j 0 0 (ue cs) else Y):=rfl;obtain⟨b0,b1,R⟩:=aF.l w (zn _ _);clear h hp hx aD aX aq al;generalize ynt t cs mr mx=d at *;go_enter func76,ntmps76;go_wp2;have V:X (UH z w (w.C (.E #[ν,ι 0] 54)) w.o.q (ν) [] 0):=⟨zg _,Th.new _ _ _,yX.nil _ _,(zn _ _).C (zg _) _⟩;generalize bg:w.C (.E #[ν,ι 0] 54)=wA at *;clear bg b0 b1 R;go_loopw [8,9,10] (λv8 v9 _ wr=>∃(i:Nat) (lv:O),i<=cs.j/\v9=ι i/\v8=lv/\X (yX z wA.o.q wr lv (ue (cs.G i)))/\X (μ wA wr)) (λ_ v9 _ _=>cs.j-(intOf v9).D)
 case atStart=>exact⟨0,_,zs _,rfl,rfl,yX.nil _ _,zn _ _⟩
 obtain⟨i,lv,hi,rfl,ak,ai,A⟩:=hrel;obtain rfl:=ak.z;clear ak;have ap:=Tg (Tk V.l.bel A.l);obtain⟨b0,b1,R⟩:=aF.l _ ap.l;by_cases aA:i<cs.j
 .have bk:(i:Int)<(cs.j:Int):=η;obtain⟨g,av,ab,cb,rfl,hg,bo,c1,c2,a3,c3⟩:=aZ.l _ i aA ap.l;have am:=Tg (aU.l i aA);obtain⟨aM,a5⟩:=aE.l i;have bC:=(aS.l _ (zq aA) cs[i].g (by simp[zm])).1;by_cases o:cs[i].d.j=0
  .have aB:X (ue (cs.G (i+1))=uw [] (ue (cs.G i)) (cs[i].g.o,cs[i].g.k,0)):=by rw[X,am.l,zb o]
   rw[o] at c3;have bm:X (∀W,μ wr W->Calls prog 123 #[.u (Z ⟨w.o.q,0,Y⟩),lv,.d cs[i].g.o,av] W λe I=>∃v,e=.returned v/\X (yX z wA.o.q I v (uw [] (ue (cs.G i)) (cs[i].g.o,cs[i].g.k,0)))/\X (μ wA I)/\I.p ⟨g,i*4+1,Y⟩=Z (.d cs[i].g.o)/\I.p ⟨g,i*4+2,Y⟩=Z av):=λW o=>by
    have aj:=Tk A.l o;have aN:=ai.l.u o;refine(E5 W w.o.q 0 _ lv av [] (ue (cs.G i)) cs[i].g.o cs[i].g.k (V.l.box.u aj) (yX.nil (z:=z) 0 W).facts aN (a3.u o) ζ η η (λf hf=>by cases hf) a5 aj.q).y ?_;rintro e I ⟨v,q1,q2,q3⟩;obtain⟨_,_,aV,_⟩:=id aN;have aC:=aj.A (q3.l.u (λb o=>yU aV (xa o)) aj.q);have ag:=ym bo V.l.bel.q;have k1:=(A.l.cell (p:=⟨g,i*4+1,Y⟩) ag).z.A c1;have k2:=(A.l.cell (p:=⟨g,i*4+2,Y⟩) ag).z.A c2;exact⟨v,q1,q2,aC,(zi aC ag k1),(zi aC ag k2)⟩
   clear a3 am aM a5;generalize uw [] (ue (cs.G i)) (cs[i].g.o,cs[i].g.k,0)=nx at *;generalize cs[i].g.o=pr at *;go_upto_region 8 with fail
   go_region_held3 (λI=>I.p ⟨g,i*4+1,Y⟩=Z (.d pr)/\I.p ⟨g,i*4+2,Y⟩=Z av) (first|go_keep|(go_simp;done)) (first|(go_at_call 123;refine(bm.l _ φ).y ?_;rintro e w5 ⟨v5,rfl,b3,bz,z0,z1⟩))
   go_wp2;go_roundw;exact⟨i+1,_,η,ξ,rfl,by rw[aB.l];exact b3,bz⟩;simp[intOf];omega
  have aB:X (ue (cs.G (i+1))=ue (cs.G i)):=by rw[X,am.l,za o]
  have b8:¬((cs[i].d.j:Int)=0):=η;clear a3 am aM a5 o;generalize cs[i].d.j=bl at *;go_wp2;go_roundw;exact⟨i+1,_,η,ξ,rfl,by rw[aB.l];exact ai,A⟩;simp[intOf];omega
 have bk:¬(i:Int)<(cs.j:Int):=η;obtain rfl:i=cs.j:=η;have a6:X (yX z wA.o.q wr lv (ue cs)):=by rw[a9.l];exact ai
 have aY:=(aE.l cs.j).1;rw[←a9.l] at aY;have a0:=V.l.box.u A.l;have ac:=Tg (UH.put (zg _) a0 (a6.l.low V.l.bel.q) ap.l);have J:=Tg bd.l;obtain⟨ay,P,ak⟩:∃ay P,lv=.k ay (ue cs).j P:=by
  obtain⟨_,_,q,_⟩:=a6.l;exact zr q
 subst ak;obtain⟨mc,mf,x⟩:=a0.e;clear a0 a6 ai a9 aU aE aS aZ bd;generalize ue cs=L0 at *;go_upto_region 10 with fail
 generalize wr.x ⟨w.o.q,0,Y⟩ (.k ay L0.j P)=wB at *;clear mc mf x b0 b1 R A ap;obtain⟨mc,mf,x⟩:=ac.l.box.e;obtain⟨b0,b1,R⟩:=aF.l _ ac.l.bel;by_cases hq:L0.j<=mr
 .have bb:¬((mr:Int)<(L0.j:Int)):=η;have aP:X (zzk t cs mr mx t.j 0 0 L0=d):=by rw[X,J.l,zb hq]
  go_wp2;clear mc mf x b0 b1 R J;go_loopw [12,13,14] (λa8 _ _ wz=>∃(s k:Nat) (L:Θ) (C:O),s<=t.j/\a8=ι s/\L.j<=mr/\k<=mx/\X (UH z w wz w.o.q C L k)/\X (∃D,TW t (zp cs) L D)/\X (zzk t cs mr mx (t.j-s) s k L=d)) (λa8 _ _ _=>t.j-(intOf a8).D)
  case atStart=>exact⟨0,0,L0,_,zs _,rfl,hq,zs _,ac,⟨_,aT.l⟩,aP⟩
  clear ac aT aP hq bb aY;obtain⟨s,k,L,C,hs,rfl,ah,af,F,H,HS⟩:=hrel;by_cases bB:s<t.j
  .have be:(s:Int)<(t.j:Int):=η;obtain⟨n,hn⟩:∃n,t.j-s=n+1:=⟨t.j-s-1,η⟩;have br:=Tg (show t.j-(s+1)=n by omega);have aR:X (d=if yw t cs s=[] then zzk t cs mr mx n (s+1) k L else match z1i t cs mr s (mx-k) k L with|none=>Y|some (L',k')=>zzk t cs mr mx n (s+1) k' L'):=by
    have q:=HS.l;rw[hn,zzk] at q;exact q.z
   have au:=Tg (bt.l wr s F.l.bel η);clear hn HS;go_wp2_with (go_at_call 124;refine au.l.y ?_;rintro e w1 ⟨rfl,b5⟩;obtain rfl:=b5.z)
   clear au;go_loopg [13,14] (mx+1) (λf bu _ wz=>∃(b:Bool) (k:Nat) (L:Θ) (C:O),bu=.i b/\(b=true->mx-k<f)/\L.j<=mr/\k<=mx/\X (UH z w wz w.o.q C L k)/\X (∃D,TW t (zp cs) L D)/\X (d=if b=false then zzk t cs mr mx n (s+1) k L else match z1i t cs mr s (mx-k) k L with|none=>Y|some (L',k')=>zzk t cs mr mx n (s+1) k' L'))
   case atStart=>
    refine⟨!(yw t cs s).isEmpty,k,L,C,rfl,λ_=>η,ah,af,F,H,?_⟩;rw[X,aR.l];rcases yw t cs s with _|⟨a,b⟩;rfl;rfl
   clear F H aR ah af;obtain⟨b,k,L,C,rfl,a4,ah,af,F,H,HS⟩:=hrel;cases b
   .have ad:X (zzk t cs mr mx n (s+1) k L=d):=HS.l.z;go_wp2;go_roundw;exact⟨s+1,k,L,C,η,ξ,ah,af,F,H,by rw[br.l];exact ad⟩;simp[intOf];omega
   have ad:X (d=match z1i t cs mr s (mx-k) k L with|none=>Y|some (L',k')=>zzk t cs mr mx n (s+1) k' L'):=HS.l;have b9:=a4 rfl;obtain⟨mc,mf,x⟩:=F.l.box.e;by_cases bn:k=mx
   .subst bn;have Q:X (d=Y):=by rw[X,ad.l,jC];rfl
    clear a4;go_wp2;go_ret;unfold r9;rw[Q.l];exact⟨rfl,F.l.bel⟩
   have b6:¬((k:Int)=(mx:Int)):=η;obtain⟨left,aa⟩:∃left,mx-k=left+1:=⟨mx-k-1,η⟩;have bf:=Tg (show mx-(k+1)=left by omega);have a2:=ad.l;rw[aa,z1i] at a2;have HU:=Tg (F.l.up);have S:=Tg a2;clear ad aa a4 HS a2;go_upto_region 21 with fail
   generalize wr.x ⟨w.o.q,1,Y⟩ (ι ((k:Int)+1))=w1 at *;clear mc mf x F;obtain⟨D,hD⟩:=H.l;have aL:=Tg (bw.l w1 s w.o.q C L D (k+1) HU.l hD η η);have ar:X (∃D,TW t (zp cs) (L++xX L (k+1) (yw t cs s) []) D):=⟨_,ba.l L D s (k+1) hD⟩;have az:=bq.l _ _ (ba.l L D s (k+1) hD);rw[yN] at az;clear hD H;generalize xX L (k+1) (yw t cs s) []=j at *;go_upto_region 22 with (first|(go_at_call 125;refine aL.l.y ?_;rintro e w2 ⟨bx,rfl,a1,aW⟩))
   have u:=Tg (HU.l.u aW.l);clear aL HU aW;obtain⟨aw,N,b2⟩:∃aw N,bx=.k aw j.j N:=by
    obtain⟨_,_,q,_⟩:=a1.l;exact zr q
   subst b2;obtain⟨aO,ax,bp⟩:∃aO ax,C=.k aO L.j ax:=by
    obtain⟨_,_,q,_⟩:=u.l.fl;exact zr q
   subst bp;obtain⟨mc,mf,x⟩:=u.l.box.e;go_upto_region 23 with (first|(at_builtin;refine EW rfl (.tmp 97) (.tmp 98) rfl _ _ _ _ rfl rfl u.l.fl a1.l η u.l.bel.q ?_;intro v8 w8 a7 aH;obtain⟨aI,K,h8⟩:∃aI K,v8=.k aI (L.j+j.j) K:=by{obtain⟨_,_,q,_⟩:=a7;rw[←yN];exact zr q};subst h8;obtain⟨_,_,y,_⟩:=u.l.fl;have aJ:=u.l.box.saveT aH (T2.own y) θ;obtain⟨bv,bs,bc⟩:=aJ.e))
   have an:=Tg (UH.put (zg _) aJ a7 (u.l.bel.A (aH.u (λb o=>yU y (xa o)) u.l.bel.q)));clear mc mf x bv bs bc aJ y a7 aH u a1;generalize w8.x ⟨w.o.q,0,Y⟩ (.k aI (L.j+j.j) K)=wN at *;obtain⟨mc,mf,x⟩:=an.l.box.e;rw[yN] at S;by_cases B:L.j+j.j<=mr
   .have bi:¬((mr:Int)<((L.j+j.j:Nat):Int)):=η;have M:=S.l;rw[zb B] at M;by_cases G:j=[]
    .have Q:X (d=zzk t cs mr mx n (s+1) (k+1) (L++j)):=by rw[X,M,zb G]
     have aQ:j.j=0:=by rw[G];rfl
     clear G M S az;have aK:X (L.j+j.j=(L++j).j):=yN.z;generalize L.j+j.j=ll at *;generalize j.j=nl at *;subst aQ;go_wp2;go_roundg (mx-(k+1))
     case measure=>omega
     exact⟨false,k+1,L++j,_,rfl,λq=>(by cases q),by rw[←aK.l];exact B,η,an,ar,Q⟩
    have Q:X (d=match z1i t cs mr s (mx-(k+1)) (k+1) (L++j) with|none=>Y|some (L',k')=>zzk t cs mr mx n (s+1) k' L'):=by rw[X,M,za G,bf.l]
    have aQ:(0:Int)<(j.j:Int):=by have:=List.length_pos_iff.2 G;omega
    clear G M S az;have aK:X (L.j+j.j=(L++j).j):=yN.z;generalize L.j+j.j=ll at *;generalize j.j=nl at *;go_wp2;go_roundg (gk-1)
    case measure=>omega
    exact⟨true,k+1,L++j,_,congrArg O.bool (decide_eq_true η),λ_=>η,by rw[←aK.l];exact B,η,an,ar,Q⟩
   have bi:((mr:Int)<((L.j+j.j:Nat):Int)):=η;have Q:X (d=Y):=by rw[X,S.l,za B]
   generalize L.j+j.j=ll at *;go_wp2;go_ret;unfold r9;rw[Q.l];exact⟨rfl,an.l.bel⟩
  have be:¬(s:Int)<(t.j:Int):=η;obtain rfl:s=t.j:=η;have Q:X (Z (L,k)=d):=by
   have q:=HS.l;rw[jC] at q;exact q
  go_wp2;go_ret;unfold r9;rw[←Q.l];exact⟨_,rfl,⟨C,F.l.hmb,F.l.box,F.l.fl⟩,F.l.bel⟩
 have bb:((mr:Int)<(L0.j:Int)):=η;have Q:X (d=Y):=by rw[X,J.l,za hq]
 go_wp2;go_ret;unfold r9;rw[Q.l];exact⟨rfl,ac.l.bel⟩
def LH(w:U)(v:O):Calls prog 34 #[v,.i true] w λe a=>e=ε (ν)/\a=w:=by
 go_enter func34,ntmps34;go_wp2;go_ret;exact⟨rfl,rfl⟩
def Q8(w:U)(u v:O):Calls prog 36 #[u,v,.i true] w λe a=>e=ε (.i true)/\a=w:=by
 go_enter func36,ntmps36;go_wp2;go_ret;exact⟨rfl,rfl⟩
def MR(w:U)(u v:O):Calls prog 75 #[u,v,.i true] w λe a=>e=ε (.i true)/\a=w:=by
 go_enter func75,ntmps75;go_wp2;go_ret;exact⟨rfl,rfl⟩
def Sp{c:Bool}(w:U)(u v:O)(a b:Int)(h:a<0∨1048576<a∨b<0∨1048576<b):Calls prog 37 #[u,v,.i c,ι a,ι b] w λe d=>e=ε (.tuple #[.u Y,ι 8])/\d=w:=by
 by_cases g:a<0
 .go_enter func37,ntmps37;go_wp2;go_ret2
  exact⟨rfl,rfl⟩
 by_cases f:1048576<a
 .go_enter func37,ntmps37;go_wp2;go_ret2
  exact⟨rfl,rfl⟩
 by_cases j:b<0
 .go_enter func37,ntmps37;go_wp2;go_ret2
  exact⟨rfl,rfl⟩
 have i:1048576<b:=η;go_enter func37,ntmps37;go_wp2;go_ret2
 exact⟨rfl,rfl⟩
def Jr(z:Nat->Prop)(w:U)(a:Option (List z9×Nat))(e:Ending)(w':U):Prop:=match a with
 |none=>e=ε (.tuple #[.u Y,ι 10])/\X (μ w w')
 |some (L,k)=>∃b,e=ε (.tuple #[(π b),ι 0])/\X (∃c,w.o.q<=b/\Th w' b #[c,ι k] 54/\yX z w.o.q w' c L)/\X (μ w w')
end
section
def nR{w:U}{B T n:Nat}{v:O}{xs:Γ}(h:w.r B T 1 v n xs)(k:Nat)(f:k<n):∃g a,v=.k (Z (δ g)) n a/\g<w.o.q/\∃b:k<xs.j,w.p (ω g k)=Z xs[k]:=by
 obtain⟨g,a,c,_,d,e⟩:=yr h η;have b:k<xs.j:=by rw[h.1];omega
 exact⟨g,a,c,d,b,e k _ (yn b)⟩
def pK(B:Nat)(own:TH)(w:U)(p:m9):Prop:=(∃(a:Nat) (s:U),B<=a/\jq a s p.1 p.2.2.1 p.2.2.2/\jG a s p.2.1 p.2.2.1 p.2.2.2/\eN p.2.2.1 p.2.2.2/\Ug a s w/\s.o.q<=w.o.q/\∀b,a<=b->b<s.o.q->own b=(0,0))/\∃x,uF x=.ok (p.2.2.1,p.2.2.2)
structure VE (z:Nat->Prop) (w:U) (x m pm:Nat) (cs:List zc) (t:List zf) (lo lp:Nat) (R:zv) (L:List z9) (k:Nat) (pv nv rv fv cv nmv kv:O) (tbs:List Nat):Prop where
 res:ko lo lp w x t (zp cs) R pv nv rv tbs
 far:¬z x/\¬z m/\¬z pm
 fars:∀v,v=pv∨v=nv∨v=rv∨v=fv->∀b,v.m=Z b->¬z b
 fart:∀p (_:p<R.I.j) (_:p<tbs.j),∃fp,yb lo w tbs[p] R.I[p] fp/\∀b∈fp,¬z b
 told:TS t (zp cs) R
 rep:TW t (zp cs) L (zyx (t.map (·.jh)) R)
 cnt:L.j=R.count/\k=R.Q/\0<=R.jg
 model:Th w m #[fv,ι k] 54
 fl:yX z 0 w fv L
 K:L.j<=1048576
 ctx:uh cs t
 prog:Th w pm #[cv,nmv,kv] 45
 names:Us z w nmv (Ti t)
abbrev lU:=Nat×Nat×Nat×List zc×List zf
def V5(own:TH)(w:U)(r:lU):Prop:=∃c f R L k g d h e i a j b,VE (uf own) w r.1 r.2.1 r.2.2.1 r.2.2.2.1 r.2.2.2.2 c f R L k g d h e i a j b
section
variable {B:Nat} {own own':TH} {w w':U} {N:List Nat}
def pK.keep{p:m9}(h:pK B own w p)(e:zd N w w')(f:∀b∈N,uf own b)(r:∀b,b<w.o.q->own b=(0,0)->own' b=(0,0)):pK B own' w' p:=by
 obtain⟨⟨g,s,j,m,k,o,l,q,d⟩,n⟩:=h;exact⟨⟨g,s,j,m,k,o,λb a c=>(e.block b η λi=>f b i (d b a c)).A (l b a c),zY q e.q,λb a c=>r b η (d b a c)⟩,n⟩
def pK.new{lo pb a:Nat}{cs:Ξ}{t:Ψ}(c:B<=lo)(f:jq lo w pb cs t)(e:jG lo w a cs t)(h:eN cs t)(g:∃x,uF x=.ok (cs,t))(d:∀b,lo<=b->own b=(0,0)):pK B own w (pb,a,cs,t):=
 ⟨⟨lo,w,c,f,e,h,λ_ _ _=>rfl,zg _,λb q _=>d b q⟩,g⟩
def V5.keep{r:lU}(h:V5 own w r)(o:zd N w w')(P:∀b∈N,uf own b)(S:∀b,b<w.o.q->own b=(0,0)->own' b=(0,0)):V5 own' w' r:=by
 obtain⟨A,Q,R,L,k,pv,V,K,W,M,x,T,j,h⟩:=h;have q:∀b,¬uf own b->b∉N:=λb a c=>a (P b c);have t:∀b,b<w.o.q->¬uf own b->¬uf own' b:=λb a c d=>c λe=>d (S b a e);have m:∀{f:Nat} {e:TypeId} {s:Nat} {v:O} {n:Nat} {G:Γ},w.r f e s v n G->(∀b,v.m=Z b->¬uf own b)->w'.r f e s v n G/\∀b,v.m=Z b->¬uf own' b:=λa c=>⟨yQ a o λb d=>q b (c b d),λb d=>t b (yG a d) (c b d)⟩;have g:=h.res;have H:=m g.preds (h.fars _ (zh rfl));have z:=m g.vals (h.fars _ (ze (zh rfl)));have C:=m g.I (h.fars _ (ze (ze (zh rfl))));obtain⟨y,J,g2,F⟩:=h.fl;have E:=m g2 (h.fars _ (ze (ze (ze rfl))));have I:∀p (_:p<R.I.j) (_:p<j.j),∃l,yb A w' j[p] R.I[p] l/\∀b∈l,¬uf own' b:=λp a c=>by
  obtain⟨l,u,D⟩:=h.fart p a c;exact⟨l,u.save o λb e=>q b (D b e),λb e=>t b (u.lt b e).2 (D b e)⟩
 have f5:=m h.names.1 h.names.2;refine⟨A,Q,R,L,k,pv,V,K,W,M,x,T,j,⟨g.low,g.box.save o (q _ h.far.1),H.1,z.1,C.1,g.tlen,λp a c=>?_,g.K⟩,⟨t _ g.box.lt h.far.1,t _ h.model.lt h.far.2.1,t _ h.prog.lt h.far.2.2⟩,?_,I,h.told,h.rep,h.cnt,h.model.save o (q _ h.far.2.1),⟨y,J,E.1,λi a c=>m (F i a c).1 (F i a c).2⟩,h.K,h.ctx,h.prog.save o (q _ h.far.2.2),f5⟩;obtain⟨l,u,_⟩:=I p a c;exact⟨l,u⟩;rintro v (rfl|rfl|rfl|rfl);exact H.2;exact z.2;exact C.2;exact E.2
end
abbrev ww:=Nat×Nat×List Int
abbrev oT:=Option (Nat×Nat×Nat×Nat)
def RE:oT->O
 |none=>ν
 |some (g,f,n,a)=>.k (Z ⟨g,f,Y⟩) n (n+a)
def Mc(a:List ww):oT->Prop
 |none=>True
 |some (g,f,n,b)=>∃x∈a,x.1=g/\f+n+b<=x.2.2.j
def K9(a:List ww):List Value:=a.map λx=>sl x.1 x.2.2.j
def PE(a:List ww):List Value:=a.map λx=>sl x.2.1 x.2.2.j
def rY(l:List Int):Array Value:=(l.map (O.int .i64)).F
def lO(rs:List lU):List Value:=rs.flatMap λr=>[.u (Z ⟨r.1,0,Y⟩),.u (Z ⟨r.2.1,0,Y⟩),.u (Z ⟨r.2.2.1,0,Y⟩)]
def UX(x:Int):Prop:=-9223372036854775808<=x/\x<=9223372036854775807
structure yZ where
 ps:List m9
 rs:List lU
 row:κ
 ins:List ww
 ord:List oT
 a:Int
 n:Int
 ex:Int
 nn:Bool
 ls:List pg
 J:List (Nat×Nat)
 N:List (Nat×Nat)
def yZ.f(M:yZ):Nat->UQ
 |0=>Z (40,2,M.ps.j,nz M.ps)
 |1=>Z (50,3,M.rs.j,lO M.rs)
 |2=>Z (24,1,M.ins.j,K9 M.ins)
 |3=>Z (24,1,M.ins.j,PE M.ins)
 |7=>Z (24,1,M.ord.j,M.ord.map RE)
 |9=>Z (9,1,M.row.j,M.row.map .d)
 |10=>Z (30,1,M.ls.j,wT M.ls)
 |11=>Z (30,1,M.ls.j,wI M.ls)
 |12=>Z (31,1,M.J.j,lJ M.J)
 |13=>Z (91,1,M.N.j,lJ M.N)
 |_=>Y
structure so (B:Nat) (own:TH) (w:U) (M:yZ):Prop where
 ints:∀k (h:k<M.ins.j),(own M.ins[k].1=(20,k+1)/\Th w M.ins[k].1 (rY M.ins[k].2.2) 3)/\(own M.ins[k].2.1=(21,k+1)/\Th w M.ins[k].2.1 (rY M.ins[k].2.2) 3)/\M.ins[k].2.2.j<=1048576
 win:∀o∈M.ord,Mc M.ins o
 z:UX M.a/\UX M.n/\UX M.ex
 lists:∀k (h:k<M.ls.j),(own M.ls[k].1=(22,k+1)/\Tn B w (sl M.ls[k].1 M.ls[k].2.2.j) M.ls[k].2.2)/\(own M.ls[k].2.1=(23,k+1)/\Tn B w (sl M.ls[k].2.1 M.ls[k].2.2.j) M.ls[k].2.2)/\M.ls[k].2.2.j<=1000
 J:∀i (h:i<M.J.j),own M.J[i].1=(0,0)/\∃hs:List Nat,hs.j=M.J[i].2/\M.J[i].2<=1048576/\w.r B 30 1 (sl M.J[i].1 M.J[i].2) M.J[i].2 (hs.map (vn (i+1)))/\∀x∈hs,own x=(0,0)/\∃c,Th w x c 9/\c[0]?=Z (.d ByteArray.empty)
 N:∀i (h:i<M.N.j),own M.N[i].1=(0,0)/\∃hs:List Nat,hs.j=M.N[i].2/\M.N[i].2<=1000/\w.r B 90 3 (sl M.N[i].1 M.N[i].2) M.N[i].2 (T3 (hs.map (wm i)))
 pairs:∀p∈M.ps,pK B own w p
 ress:∀r∈M.rs,V5 own w r
section
variable {B:Nat} {own own':TH} {w w':U} {N:List Nat} {M:yZ}
def so.keep(h:so B own w M)(z:zd N w w')(P:∀b∈N,0<(own b).1/\(own b).1<20)(G:∀b,b<w.o.q->(own b).1=0∨20<=(own b).1->own' b=own b):so B own' w' M:=by
 have u:∀b,b<w.o.q->own b=(0,0)->own' b=(0,0):=λb q e=>(G b q (zh (by rw[e]))).A e;have L:∀b∈N,uf own b:=λb j e=>by have:=(P b j).1;rw[e] at this;cases this
 have q:∀b t,own b=t->t.1=0∨20<=t.1->b∉N:=λb t e a hm=>by have:=P b hm;rw[e] at this;omega
 have F:∀{b:Nat} {c:Array O} {T:TypeId} {t:Vw},own b=t->t.1=0∨20<=t.1->Th w b c T->own' b=t/\Th w' b c T:=λe a j=>⟨(G _ j.lt (by rw[e];exact a)).A e,j.save z (q _ _ e a)⟩;have A:∀{g n:Nat} {d:Nat} {e:TypeId} {s m:Nat} {R:Γ} {t:Vw},own g=t->t.1=0∨20<=t.1->w.r d e s (sl g n) m R->own' g=t/\w'.r d e s (sl g n) m R:=λe a S=>⟨(G _ (yG S rfl) (by rw[e];exact a)).A e,yQ S z λb j=>by cases j;exact q _ _ e a⟩;refine⟨λk I=>?_,h.win,h.z,λk I=>?_,λi H=>?_,λi H=>?_,λp hp=>(h.pairs p hp).keep z L u,λr W=>(h.ress r W).keep z L u⟩;obtain⟨⟨f,v⟩,⟨o,K⟩,E⟩:=h.ints k I;exact⟨F f (ze ζ) v,F o (ze ζ) K,E⟩;obtain⟨⟨y,f⟩,⟨C,o⟩,E⟩:=h.lists k I;exact⟨A y (ze ζ) f,A C (ze ζ) o,E⟩;obtain⟨y,D,f,v,J,V⟩:=h.J i H;have l:=A y (zh rfl) J;refine⟨l.1,D,f,v,l.2,λx hx=>?_⟩;obtain⟨C,c,o,K⟩:=V x hx;have Q:=F C (zh rfl) o;exact⟨Q.1,c,Q.2,K⟩;obtain⟨y,D,f,v,J⟩:=h.N i H;have l:=A y (zh rfl) J;exact⟨l.1,D,f,v,l.2⟩
end
structure y7 (B:Nat) (own:TH) (w:U) (wb:Nat) (M:yZ) (V:Nat->O):Prop where
 hd:U4 B own w wb M.f V
 inn:so B own w M
 nums:V 4=ι M.a/\V 5=ι M.n/\V 6=ι M.ex/\V 8=.i M.nn
section
variable {B:Nat} {own:TH} {w w' w2:U} {wb:Nat} {M M':yZ} {V:Nat->O}
def y7.u(h:y7 B own w wb M V)(a:μ w w'):y7 B own w' wb M V:=⟨h.hd.u a,h.inn.keep (zd.of (M:=[]) a) ζ (λ_ _ _=>rfl),h.nums⟩
def y7.down(h:y7 B own w wb M V)(k:xO own w w'):Below B w w':=by
 obtain⟨N,d,c⟩:=k;exact d.u (λb a=>h.hd.low b (c b a)) h.hd.q
def y7.box(h:y7 B own w wb M V):Th w wb #[V 0,V 1,V 2,V 3,ι M.a,ι M.n,ι M.ex,V 7,.i M.nn,V 9,V 10,V 11,V 12,V 13] 35:=by
 have:=h.hd.box;obtain⟨a,c,b,d⟩:=h.nums;rw[←a,←c,←b,←d];exact this
def y7.tags(h:y7 B own w wb M V)(f:Nat)(d:f<14):∀b∈wb::(V f).m.v,(0<(own b).1/\(own b).1<20)/\uf own b:=λb a=>by
 rcases zG.1 a with rfl|a
 .exact⟨by rw[h.hd.tag];decide,by unfold uf;rw[h.hd.tag];decide⟩
 .obtain⟨c,_⟩:=h.hd.tg f b (xa a);exact⟨by rw[c];exact⟨ζ,by simp;omega⟩,by unfold uf;rw[c];simp⟩
def y7.more{own':TH}(h:y7 B own w wb M V)(a:μ w w')(c:∀b,b<w.o.q->own' b=own b)(d:∀b,w'.o.q<=b->own' b=(0,0)):y7 B own' w' wb M V:=
 ⟨h.hd.gen [] (zd.of (M:=[]) a) ζ (h.hd.box.u a) c d (λ_ _=>⟨rfl,rfl⟩) ζ,h.inn.keep (zd.of (M:=[]) a) ζ (λb q _=>c b q),h.nums⟩
def y7.save{N:Φ}(h:y7 B own w wb M V)(a:zd N w w')(c:∀b∈N,own b=(19,1)):y7 B own w' wb M V:=
 ⟨h.hd.gen [] a (λb d=>ze (ze (by rw[c b d];simp))) (h.hd.box.save a λe=>by have:=c _ e;rw[h.hd.tag] at this;cases this) (λ_ _=>rfl) (λb q=>h.hd.new b (zY a.q q)) (λ_ _=>⟨rfl,rfl⟩) ζ,h.inn.keep a (λb d=>by rw[c b d];simp) (λ_ _ _=>rfl),h.nums⟩
def y7.retag{own':TH}(h:y7 B own w wb M V)(c:∀b,own b≠(19,1)->own' b=own b):y7 B own' w wb M V:=
 have a:=h.hd
 ⟨⟨λb q=>a.low b λe=>q ((c b (by rw[e];decide)).A e),a.box,(c wb (by rw[a.tag];decide)).A a.tag,λb q=>(c b (by rw[a.new b q];decide)).A (a.new b q),a.row,λf b q=>⟨(c b (by rw[(a.tg f b q).1];simp)).A (a.tg f b q).1,(a.tg f b q).2⟩⟩,h.inn.keep (zd.refl [] w) ζ (λb _ q=>c b λe=>by rw[e] at q;simp at q),h.nums⟩
def y7.put(h:y7 B own w wb M V){f:Nat}(m:f<14){v:O}(u:∀g,g≠f->M'.f g=M.f g){T:TypeId}{s n:Nat}{xs:Γ}(d:M'.f f=Z (T,s,n,xs))(j:w2.r B T s v n xs)(x:zd (V f).m.v w w2)(e:v.m=(V f).m∨v.m=Y∨∃g,v.m=Z g/\w.o.q<=g)(o:gY V f v 4=ι M'.a/\gY V f v 5=ι M'.n/\gY V f v 6=ι M'.ex/\gY V f v 8=.i M'.nn)
  (l:∀own' w',so B own' w' M->zd (wb::(V f).m.v) w w'->(∀b,b<w.o.q->own' b=own b)->so B own' w' M'):
  (∃own',y7 B own' (w2.x (ω wb f) v) wb M' (gY V f v)/\∀b,b<w.o.q->own' b=own b)/\xO own w (w2.x (ω wb f) v)/\zd (wb::(V f).m.v) w (w2.x (ω wb f) v):=by
 have k:=h.tags f m;obtain⟨r,c,i⟩:=h.hd.put (F':=M'.f) (v:=v) u (λA y z t q=>by rw[d] at q;cases q;exact j) x (λb a=>by
  rcases e with q|q|⟨g,q,p⟩;exact zh (q ▸ a);rw[q] at a;cases a;have:=yG j a;rw[q] at a;cases a;exact ze ⟨p,this⟩)
 exact⟨⟨_,⟨r,l _ _ (h.inn.keep c (λb a=>(k b a).1) λb q _=>i b q) c i,o⟩,i⟩,⟨_,c,λb a=>(k b a).2⟩,c⟩
end
structure mJ (M M':yZ):Prop where
 ps:M'.ps.j<=M.ps.j+1
 rs:M'.rs.j<=M.rs.j+1
 row:M'.row.j<=M.row.j+1
 ins:M'.ins.j<=M.ins.j+1
 ord:M'.ord.j<=M.ord.j+1
 ls:M'.ls.j<=M.ls.j+1048576
 J:M'.J.j<=M.J.j+1
 N:M'.N.j<=M.N.j+1
 nn:M'.nn=M.nn
def mJ.refl(M:yZ):mJ M M:=⟨η,η,η,η,η,η,η,η,rfl⟩
def Uv(B:Nat)(own:TH)(w:U)(wb:Nat)(M:yZ)(e:Ending)(w':U):Prop:=e=ε (.i true)/\X (∃own' M' a,y7 B own' w' wb M' a/\mJ M M'/\∀b,b<w.o.q->own' b=own b)/\X (xO own w w')
def m6(B:Nat)(own:TH)(w:U)(wb:Nat)(M:yZ)(c:O)(e:Ending)(w':U):Prop:=e=ε (.i true)/\X (∃own' M' a,y7 B own' w' wb M' a/\mJ M M'/\(∀b,b<w.o.q->own' b=own b)/\M'.rs=M.rs/\a 1=c)/\X (xO own w w')
def m6.a{B:Nat}{own:TH}{w:U}{wb:Nat}{M:yZ}{a:O}{e:Ending}{w':U}(h:m6 B own w wb M a e w'):Uv B own w wb M e w':=by
 obtain⟨d,⟨own',M',b,c,g,f,_⟩,i⟩:=h;exact⟨d,⟨own',M',b,c,g,f⟩,i⟩
def m6.kept{B:Nat}{own:TH}{w b:U}{wb:Nat}{M:yZ}{V:Nat->O}(h:y7 B own w wb M V)(a:μ w b):m6 B own w wb M (V 1) (ε (.i true)) b:=⟨rfl,⟨own,M,V,h.u a,mJ.refl M,λ_ _=>rfl,rfl,rfl⟩,xO.of a⟩
def Uv.kept{B:Nat}{own:TH}{w b:U}{wb:Nat}{M:yZ}{V:Nat->O}(h:y7 B own w wb M V)(a:μ w b):Uv B own w wb M (ε (.i true)) b:=⟨rfl,⟨own,M,V,h.u a,mJ.refl M,λ_ _=>rfl⟩,xO.of a⟩
end
section
open Go.Proofs.Tryz
def La{L B:Nat}{own:TH}{w:U}{u:Nat}{M:yZ}{V:Nat->O}(h:y7 B own w u M V){g:Nat}{l:κ}{vb:O}(hg:own g=(22,M.ls.j+1))(ha:Tn B w (sl g l.j) l)(t:Tn L w vb l)(hl:l.j<=1000)(hn:M.ls.j<=2000000000000):
  Calls prog 41 #[(π u),sl g l.j,vb] w λe J=>e=ε (.i true)/\X (∃a V' v,y7 B a J u {M with ls:=M.ls++[(g,v,l)]} V'/\(∀b,b<w.o.q->a b=own b)/\V' 1=V 1)/\X (∃N,zd N w J/\∀b∈N,own b=(1,0)∨own b=(12,0)∨own b=(13,0)):=by
 have R:w.r B 30 1 (V 10) M.ls.j (wT M.ls):=h.hd.row 10 _ _ _ _ rfl;have P:w.r B 30 1 (V 11) M.ls.j (wI M.ls):=h.hd.row 11 _ _ _ _ rfl;have x:=h.hd.tg 10;have y:=h.hd.tg 11;have hB:=h.hd.q;refine(N9 B w u (V 0) (V 1) (V 2) (V 3) _ _ _ (V 7) _ (V 9) (V 10) (V 11) (V 12) (V 13) M.ls.j _ _ g l vb h.box R P h.hd.wlow (λb q1 q2=>by have:=(x b q1).1;rw[(y b q2).1] at this;cases this) ha t hl hn).y λe J ⟨he,d,i,v,F,r,p,ae,j,S,K,E,m⟩=>?_;have hs:=m.q;have ad:v<J.o.q:=yG j rfl;have hN:∀b∈u::((V 10).m.v++(V 11).m.v),b=u∨(∃f∈[10,11],(V f).m=Z b)∨(own b).2≠0:=λb t=>by
  rcases zG.1 t with e|e;exact zh e;rcases ya.1 e with e|e;exact ze (zh ⟨10,ζ,xa e⟩);exact ze (zh ⟨11,ζ,xa e⟩)
 have z:∀b∈u::((V 10).m.v++(V 11).m.v),own b=(1,0)∨own b=(12,0)∨own b=(13,0):=λb t=>by
  rcases zG.1 t with rfl|e;exact zh h.hd.tag;rcases ya.1 e with e|e;exact ze (zh (x b (xa e)).1);exact ze (ze (y b (xa e)).1)
 have ab:∀b,d.m=Z b->own b=(12,0)∨w.o.q<=b:=λb q=>by
  rcases S with e|⟨g1,e,o⟩;exact zh (x b (e ▸ q)).1;rw[e] at q;cases q;exact ze o
 have aa:∀b,i.m=Z b->own b=(13,0)∨w.o.q<=b:=λb q=>by
  rcases K with e|⟨g1,e,o⟩;exact zh (y b (e ▸ q)).1;rw[e] at q;cases q;exact ze o
 have D:d.m≠Z v:=λq=>nO j r θ rfl q;have H:i.m≠Z v:=λq=>nO j p θ rfl q;obtain⟨a,c⟩:∃a:TH,∀b,a b=if i.m=Z b then(13,0) else if d.m=Z b then(12,0) else if v=b then(23,M.ls.j+1) else own b:=⟨_,λ_=>rfl⟩
 have I:∀b,b<w.o.q->a b=own b:=λb q=>by
  rw[c];split;rename_i e;rcases aa b e with o|o;exact o.z;omega;split;rename_i e;rcases ab b e with o|o;exact o.z;omega;rw[za η]
 have W:a v=(23,M.ls.j+1):=by rw[c,za H,za D,zb rfl]
 have hI:=h.inn.keep m (λb t=>by rcases z b t with q|q|q<;>rw[q]<;>simp) λb q _=>I b q;have ac:g<w.o.q:=yG ha rfl;have Q:g∉u::((V 10).m.v++(V 11).m.v):=λhm=>by rcases z g hm with q|q|q<;>rw[hg] at q<;>simp at q
 refine⟨he,⟨a,λf=>if f=10 then d else if f=11 then i else V f,v,⟨h.hd.gen [10,11] m hN ?_ I (λb q=>?_) (λf A=>?_) (λf A=>?_),{hI with lists:=λk hk=>?_},h.nums⟩,I,rfl⟩,⟨_,m,z⟩⟩;obtain⟨e1,o,e3,e4⟩:=h.nums;rw[←e1,←o,←e3,←e4] at F;exact F;rw[c,za (λe=>by have:=yG p e;omega),za (λe=>by have:=yG r e;omega),za η];exact h.hd.new b η;simp at A;refine⟨by simp[A.1,A.2],?_⟩;unfold yZ.f;split<;>first|rfl|omega
 simp at A;rcases A with rfl|rfl;refine⟨λT s n xs q=>?_,λb q=>?_⟩;cases q;simpa [wT,sl] using r;have C:d.m=Z b:=q;exact⟨by rw[c,za (E b C),zb C],yG r C⟩;refine⟨λT s n xs q=>?_,λb q=>?_⟩;cases q;simpa [wI,sl] using p;have C:i.m=Z b:=q;exact⟨by rw[c,zb C],yG p C⟩;by_cases G:k<M.ls.j;have:=hI.lists k G;simp only[uH G];exact this;obtain rfl:k=M.ls.j:=by simp at hk;omega
 simp only[pL];exact⟨⟨(I g ac).A hg,yQ ha m λb t=>by cases t;exact Q⟩,⟨W,yo j hB⟩,hl⟩
end
def Bk{t:Ψ}(g:y9 (Ti t))(n:ByteArray):(zU t n).I=yh n (Ti t):=by
 cases b:yh n (Ti t);rcases a:zU t n with _|e;rfl;obtain⟨h,f,c⟩:=jw a;have:yh n (Ti t)=true:=vO.2 (zF.2 ⟨e,by rw[←f];exact zq _,c⟩);rw[b] at this;cases this;obtain⟨e,a,rfl⟩:=zF.1 (vO.1 b);obtain⟨p,d,rfl⟩:=vL.1 a;rw[(o7 g d).1];rfl
def An(b:Bool)(o:Option Nat)(L:List z9):Nat×Nat:=if b=true then(match o with|none=>(0,12)|some k=>(((L[k]?).map (·.2.2)).getD 0,0)) else(0,11)
def OE{cs:Ξ}{t:Ψ}(b:uh cs t){L:Θ}{R:zv}(c:TS t (zp cs) R)(h:TW t (zp cs) L (zyx (t.map (·.jh)) R))(a:ByteArray)(row:κ):ri t (zp cs) R a row=An (yh a (Ti t)) (yP a row L) L:=by
 rw[Lt b c h,←Bk b.rise];rfl
def Df(n:ByteArray)(l:κ)(x:ByteArray):yh n (l++[x])=(yh n l||decide (x=n)):=by
 induction l with
 |nil=>simp[yh]
 |cons a l b=>simp only[lr,yh,b,Bool.or_assoc]
def Ku(cs:Γ):splice (madeCells #[O.string ByteArray.empty] (cs.j+2)).v 0 cs=cs++[.d ByteArray.empty,.d ByteArray.empty]:=by
 have e:(madeCells #[O.string ByteArray.empty] (cs.j+2)).v=List.replicate cs.j (O.string ByteArray.empty)++[.d ByteArray.empty,.d ByteArray.empty]:=by
  have:(madeCells #[O.string ByteArray.empty] (cs.j+2)).v=List.replicate (cs.j+2) (O.string ByteArray.empty):=by
   unfold madeCells;apply jy;simp;intro i b a;simp[Nat.mod_one]
  rw[this,←List.replicate_append_replicate];rfl
 rw[e];unfold splice;simp
def Qd{w:U}{b:Nat}{row:κ}{u v:O}(h:Th w b (row.map O.string++[u,v]).F 9)(a:row.j<=2000000):Tn 0 w (.k (Z (δ b)) row.j (row.j+2)) row:=by
 refine⟨ζ,ze ⟨b,row.j+2,_,rfl,zs _,h,η,by unfold maxLen;omega,ζ,ζ⟩⟩
section
open Go.Proofs.Tryz
def SD:(prog.info? 50).map (λi=>(i.zero,i.q,i.bytes))=Z (Z (.agg #[.u Y,.u Y,.u Y]),3,24):=χ
structure Vz (cs:List zc) (t0 t:List zf):Prop where
 parts:Ty cs t0 t
 ctx:uh cs t
 len:cs.j<=1000
 names:t.j<=1000
 low:∀c∈cs,xP t c.g.o<=1000
 d:∀c∈cs,c.d.j<=30
 k:∀c∈cs,∀l∈zm c,l.k.j<=3/\∀a∈l.k,0<a.q
 K:∀L D,TW t (zp cs) L D->L.j<1000000000000/\∀c∈cs,(yt L c.g c.d c.d []).j<=1000000000000
def R7{x:ByteArray}{cs:Ξ}{t:Ψ}(h:uF x=.ok (cs,t)):∃i,Vz cs i t:=by
 obtain⟨i,b⟩:=FJ h;have k:=Q9 h;have j:=uh.of k b;obtain⟨_,e,_⟩:=b.low;have o:=b.K;have m:t.j<=1000:=η;have g:∀c∈cs,rf c:=λc q=>(k c q).fine (b.many c q);refine⟨i,b,j,b.runok.1.len,m,λc d=>?_,λc d=>?_,λc d l e=>⟨(j.lit c d l e).2.2.2,λa n=>(((g c d).1 l e).2.2.2 a n).1⟩,Q6 b j m (LD h)⟩;rw[wF];have:=Ap b.least (ps:=Ti t) (λc d l e=>EU b d e) (EU b d (l:=c.g) (by simp[zm]));simp only[Ti,xu] at this;omega;have f:=b.many c d;unfold yR at f;simp only[pN,decide_eq_false_iff_not] at f;have:=f.1.1.1;omega
def QL(f pb:Nat)(t:List zf)(ns:κ)(o:Option (DB×Nat))(w:U)(e:Ending)(w':U):Prop:=match o with
 |none=>e=ε (.tuple #[.u Y,ι 10])/\X (μ w w')
 |some x=>∃b,e=ε (.tuple #[(π b),ι 0])/\X (∃R c d g a,ko w.o.q f w' b t ns R c d g a/\w.p ⟨pb,1,Y⟩=Z c/\TS t ns R/\zyx (t.map (·.jh)) R=x.1/\R.Q=x.2/\l9 x.1 R.count/\R.count<=1048576/\0<=R.jg)/\X (μ w w')
def JN{j:Nat}(w:U)(pb:Nat){s:ByteArray}{cs:Ξ}{z t:Ψ}(l:uF s=.ok (cs,t))(J:jq j w pb cs t)(h:Ty cs z t)(k:j<=w.o.q)(m:O)(os:Option (List (Option (List Int))))(M:jU w m os)(n:vC cs os=true)(mr mx:Nat)(r:mr<=1048576)(o:mx<=1048576):
  Calls prog 35 #[(π pb),m,ι mr,ι mx] w λe v=>QL j pb t (zp cs) (z0n (vf t (zp cs) Y cs) mr mx) w e v:=by
 obtain⟨I,b⟩:=h.runos n;have p:∀c∈cs,(zx c).j<=5:=λc l=>fL (h.many c l);have f:=oL n p;have a:=Rp h (zp cs) Y os (oL rfl p) f (mr:=mr) (mx:=mx);obtain⟨N,B⟩:=Qx b (mr:=mr) (mx:=mx) r;obtain⟨g,q,y,x⟩:=B N (zg _);refine(Rr w pb cs t m os mr mx N g J M I n r o k q).y ?_;intro e v d;rcases g with _|R;rw[a,y rfl];exact d;obtain⟨u,Q,F⟩:=x R rfl;obtain⟨D,P,G,A,i,E,L,H,K⟩:=d;rw[F] at a;have C:=h.told u rfl a η;rw[a];exact⟨D,L,⟨R,P,G,A,i,H,E,C,rfl,rfl,u.card b.small,η,Mw l h os f o q⟩,K⟩
section
variable {B:Nat} {own:TH} {w:U} {wb:Nat} {M:yZ} {V:Nat->O}
def OQ(h:y7 B own w wb M V)(s:ByteArray)(hs:s.q<=1048576)(af:M.ps.j<=1048576):
  Calls prog 16 #[(π wb),.d s] w λe w'=>Uv B own w wb M e w':=by
 have d:s.q<=9223372036854775807:=η;have L:=h.hd.q;have N:=Tg h;cases z:uF s with
 |error k=>
  have hk:=JW z;have x:=Tg z;clear z h;go_enter func16,ntmps16;go_wp2_with (first|(go_at_call 32;refine(IF x.l _ d).y ?_;rintro e w1 ⟨rfl,c⟩)|(go_at_call 33;refine(RV x.l _ d).y ?_;rintro e w2 ⟨rfl,i⟩))
  go_ret;exact Uv.kept N.l (Tk c i)
 |ok p=>
  obtain⟨cs,t⟩:=p;obtain⟨i0,hi,P,D,G⟩:=info_parts SJ;have x:=Tg z;obtain⟨A,o,F⟩:=zr (h.hd.row 0 _ _ _ _ rfl);have J:X (∀W,μ w W->W.r B 40 2 (.k A M.ps.j o) M.ps.j (nz M.ps)/\Th W wb #[.k A M.ps.j o,V 1,V 2,V 3,ι M.a,ι M.n,ι M.ex,V 7,.i M.nn,V 9,V 10,V 11,V 12,V 13] 35):=λW hW=>by
   rw[←F];exact⟨(h.u hW).hd.row 0 _ _ _ _ rfl,(h.u hW).box⟩
  have HV:=Tg F;clear z h F;go_enter func16,ntmps16;go_wp2_with (first|(go_at_call 32;refine(PW x.l _ d).y ?_;rintro e w1 ⟨Q,rfl,K,c⟩)|(go_at_call 33;refine(Sf x.l _ d).y ?_;rintro e w2 ⟨p2,rfl,C,i⟩;have g:=Tk c i;obtain⟨r,a⟩:=J.l _ g;obtain⟨ad,ae,ab⟩:=a.e;have aa:=g.q)|(at_builtin;refine kc w2 _ [(π Q),(π p2)] _ rfl (.tmp 35) (.tmp 39) 28 rfl B 40 i0 _ 2 16 underlying28 hi P D G rfl θ _ _ _ rfl r (zn _ _) _ _ rfl ζ rfl a_ η η η ?_;intro v' w3 y v j;obtain⟨ah,S,rfl⟩:=zr y;have I:=a.save v (jx r a θ);obtain⟨ac,ag,R⟩:=I.e))
  go_ret;have u:=N.l.u g;rw[←HV.l] at v j;obtain⟨⟨l,r1,r2⟩,r3,_⟩:=u.put (f:=0) (M':={M with ps:=M.ps++[(Q,p2,cs,t)]}) θ (λf hf=>by unfold yZ.f;split<;>first|rfl|omega) (T:=40) (s:=2) (n:=M.ps.j+1) (by simp[yZ.f,nz]) y v (j.imp_right ze) u.nums λl w' m H E=>⟨m.ints,m.win,m.z,m.lists,m.J,m.N,λp hp=>by
   rcases ya.1 hp with q|q;exact m.pairs p q;rw[xQ.1 q];exact(pK.new (own:=own) L (K.u i) (C.low c.q) (J5 x.l) ⟨s,x.l⟩ N.l.hd.new).keep H (λb hb=>(u.tags 0 θ b hb).2) (λb q1 q2=>(E b q1).A q2),m.ress⟩
  exact⟨rfl,⟨l,_,_,r1,⟨ζ,ζ,ζ,ζ,ζ,ζ,ζ,ζ,rfl⟩,λb q=>r2 b η⟩,(xO.of g).A r3 λ_ _=>rfl⟩
end
end
end Go.Proofs.YteampbddflhngaaGreat
