import Derived.Test.YteampbddflhngaaGreatV45
import Derived.Test.YteampbddflhngaaGreatV46
namespace Go.Proofs.YteampbddflhngaaGreat
set_option linter.all false
set_option maxRecDepth 100000
set_option maxHeartbeats 4000000
open Go.Proofs.Tryz Go.RowKit
section
variable {B:y6}{lo:Nat}
theorem Ik{t:ByteArray}(a:vG B)(b:0<t.size):gs B t=true↔yc B t≠ByteArray.empty:=by
 unfold gs yc;cases zV t with
 |false=>
  simp only[Bool.not_false,Bool.true_or,true_iff,kL,if_false];rintro rfl;exact zC b (by decide)
 |true=>
  simp only[mt,mE,if_true];cases c:Po B t with
  |none=>simp
  |some x=>simp[a t x c]
theorem Kk{y z:ByteArray}(b:vG B)(c:z≠ByteArray.empty):vG (B++[(y,z)]):=by
 intro v x h;rw[p6] at h;cases a:Po B v with
 |some u=>
  rw[a] at h;simp only[Option.some_or,zs] at h;rw[←h];exact b v u a
 |none=>
  rw[a] at h;simp only[Option.none_or,Po] at h;split at h
  ·cases h;exact c
  ·cases h
structure CR (lo:Nat) (w:World) (cb:Nat) (B:y6) (v1 v2:Value):Prop where
 box:OZ w cb #[v1,v2] 270
 fst:w.ownsRow lo 9 1 v1 B.length ((xj B).map Value.string)
 snd:w.ownsRow lo 9 1 v2 B.length ((xP B).map Value.string)
 ne:∀b,v1.ownBlock=some b->v2.ownBlock≠some b
theorem CR.sf{w:World}{b:Nat}{a c:Value}(h:CR lo w b B a c):Pg lo w a (xj B):=by unfold Pg;rw[i4];exact h.fst
theorem CR.ss{w:World}{b:Nat}{c a:Value}(h:CR lo w b B c a):Pg lo w a (xP B):=by unfold Pg;rw[wk];exact h.snd
theorem CR.below{lo:Nat}{w e:World}{d:Nat}{B:y6}{c b:Value}(h:CR lo w d B c b)(a:Below w.heap.size w e):CR lo e d B c b:=⟨h.box.below a,zE h.fst a,zE h.snd a,h.ne⟩
theorem He{aN be bq:Nat}(w:World)(Y lv av rv:Value)(B:y6)(args row:List ByteArray)(h1:Pg lo w Y (xj B))(h2:Pg aN w lv (xP B))(h3:Pg be w av args)(h4:Pg bq w rv row)(hl:B.length<=100)(ha:args.length<=100)(hr:row.length=args.length)(aJ:∀a∈args,0<a.size)(hF:vG B)(aI:∀x∈row,x≠ByteArray.empty):
  Calls prog 196 #[.agg #[Y,lv],av,rv] w fun e P=>∃(n1 c1:Nat) (o1:Option Addr) (n2 c2:Nat) (o2:Option Addr),e=.returned (.tuple #[.agg #[.slice o1 n1 c1,.slice o2 n2 c2],.bool (xn B args row).isSome])/\Hid (∀B',xn B args row=some B'->Pg w.heap.size P (.slice o1 n1 c1) (xj B')/\Pg w.heap.size P (.slice o2 n2 c2) (xP B')/\B'.length<=B.length+args.length)/\Hid (Below w.heap.size w P):=by
 obtain⟨i0,hi,aR,aQ,aU⟩:=info_parts O4;have aC:Hid (∀W,Below w.heap.size w W->Pg lo W Y (xj B)/\Pg aN W lv (xP B)):=fun W i=>⟨h1.below i,h2.below i⟩;obtain⟨ao,bw,rfl⟩:=h3.qw;obtain⟨bc,bu,rfl⟩:=h4.qw;have HA:Hid (∀W k (hk:k<args.length),Below w.heap.size w W->∃g,ao=some ⟨g,0,none⟩/\g<W.heap.size/\W.cell? ⟨g,k,none⟩=some (.string args[k])):=fun W k hk i=>(h3.below i).cell k hk;have HR:Hid (∀W k (hk:k<row.length),Below w.heap.size w W->∃g,bc=some ⟨g,0,none⟩/\g<W.heap.size/\W.cell? ⟨g,k,none⟩=some (.string row[k])):=fun W k hk i=>(h4.below i).cell k hk;have e1:(xj B).length<=1000000:=by simp[xj];omega
 have e2:(xP B).length<=1000000:=by simp[xP];omega
 clear h1 h2 h3 h4;go_enter func196,ntmps196;go_upto_region 2 with fail
 have a4:Hid (Below w.heap.size w (((w.alloc (.cells #[Y,lv] 270)).alloc (.cells #[.slice none 0 0,.slice none 0 0] 270)).alloc (.cells #[.slice none 0 0,.slice none 0 0] 270))):=(zO.alloc (by simp) _).alloc (by simp;omega) _;have ak:=wH (wH (OZ.new w #[Y,lv] 270) (.cells #[.slice none 0 0,.slice none 0 0] 270)) (.cells #[.slice none 0 0,.slice none 0 0] 270);have aP:=wH (OZ.newAt (w.alloc (.cells #[Y,lv] 270)) (w.heap.size+1) #[.slice none 0 0,.slice none 0 0] 270 (by simp)) (.cells #[.slice none 0 0,.slice none 0 0] 270);have a8:=OZ.newAt ((w.alloc (.cells #[Y,lv] 270)).alloc (.cells #[.slice none 0 0,.slice none 0 0] 270)) (w.heap.size+1+1) #[.slice none 0 0,.slice none 0 0] 270 (by simp);have bo:(((w.alloc (.cells #[Y,lv] 270)).alloc (.cells #[.slice none 0 0,.slice none 0 0] 270)).alloc (.cells #[.slice none 0 0,.slice none 0 0] 270)).heap.size=w.heap.size+1+1+1:=by simp
 generalize br:((w.alloc (.cells #[Y,lv] 270)).alloc (.cells #[.slice none 0 0,.slice none 0 0] 270)).alloc (.cells #[.slice none 0 0,.slice none 0 0] 270)=wA at *;clear br;obtain⟨c0,f0⟩:=ak.rules;obtain⟨c2,f2⟩:=a8.rules;go_upto_region 3 with (first|(at_builtin;refine Dc rfl (.tmp 14) (.tmp 16) rfl (xj B) Y rfl rfl (aC.out _ a4.out).1 e1 ?_;intro v1 w1 al Q;have L:=a8.below Q;obtain⟨d2,g2,ac⟩:=L.boxed;have aZ:=Q.size;obtain⟨C,n,rfl⟩:=al.qw))
 have aB:=ak.lt;have a6:Hid (OZ (w1.setCell ⟨w.heap.size+1+1,0,none⟩ (.slice C (xj B).length n)) w.heap.size #[Y,lv] 270):=(ak.below Q).set_ne (by omega) 0 _;have aG:Hid (OZ (w1.setCell ⟨w.heap.size+1+1,0,none⟩ (.slice C (xj B).length n)) (w.heap.size+1) #[.slice none 0 0,.slice none 0 0] 270):=(aP.below Q).set_ne (by omega) 0 _;have ah:Hid (OZ (w1.setCell ⟨w.heap.size+1+1,0,none⟩ (.slice C (xj B).length n)) (w.heap.size+1+1) #[.slice C (xj B).length n,.slice none 0 0] 270):=L.set 0 _;have ax:Hid (Below w.heap.size w (w1.setCell ⟨w.heap.size+1+1,0,none⟩ (.slice C (xj B).length n))):=(zM a4.out Q (by omega)).setCell (p:=⟨w.heap.size+1+1,0,none⟩) (by show w.heap.size<=w.heap.size+1+1;omega) _;have aq:Hid (Pg wA.heap.size (w1.setCell ⟨w.heap.size+1+1,0,none⟩ (.slice C (xj B).length n)) (.slice C (xj B).length n) (xj B)):=yI al (zd.set w1 (w.heap.size+1+1) 0 (.slice C (xj B).length n)) (fun b i E=>by have:=yW al i;simp at E;omega);have aX:w1.heap.size<=(w1.setCell ⟨w.heap.size+1+1,0,none⟩ (.slice C (xj B).length n)).heap.size:=by simp[World.setCell]
 clear c0 f0 c2 f2 d2 g2 ac L ak aP a8 Q al aB;generalize w1.setCell ⟨w.heap.size+1+1,0,none⟩ (.slice C (xj B).length n)=wB at *;obtain⟨c0,f0⟩:=a6.out.rules;obtain⟨c2,f2⟩:=ah.out.rules;have aB:=a6.out.lt;have ac:=ah.out.lt;go_upto_region 4 with (first|(at_builtin;refine Dc rfl (.tmp 20) (.tmp 22) rfl (xP B) lv rfl rfl (aC.out _ ax.out).2 e2 ?_;intro v2 F s T;have L:=ah.out.below T;obtain⟨d2,g2,bd⟩:=L.boxed;have bs:=T.size;obtain⟨K,A,rfl⟩:=s.qw))
 have hL:∀b,w.heap.size+1+1≠b->True:=fun _ _=>trivial;have HC:Hid (CR w.heap.size (F.setCell ⟨w.heap.size+1+1,1,none⟩ (.slice K (xP B).length A)) (w.heap.size+1+1) B (.slice C (xj B).length n) (.slice K (xP B).length A)):=⟨L.set 1 _,by rw[←i4 B];exact yI (yr (zE aq.out T) (by omega)) (zd.set F (w.heap.size+1+1) 1 (.slice K (xP B).length A)) (fun b i E=>by have:=yW aq.out i;simp at E;omega),by rw[←wk B];exact yI (yr s (by omega)) (zd.set F (w.heap.size+1+1) 1 (.slice K (xP B).length A)) (fun b i E=>by have:=yW s i;simp at E;omega),fun b i E=>by have:=yO aq.out i;have:=yW s E;omega⟩;have aT:Hid (OZ (F.setCell ⟨w.heap.size+1+1,1,none⟩ (.slice K (xP B).length A)) (w.heap.size+1) #[.slice none 0 0,.slice none 0 0] 270):=(aG.out.below T).set_ne (by omega) 1 _;have aE:Hid (Below w.heap.size w (F.setCell ⟨w.heap.size+1+1,1,none⟩ (.slice K (xP B).length A))):=(zM ax.out T (by omega)).setCell (p:=⟨w.heap.size+1+1,1,none⟩) (by show w.heap.size<=w.heap.size+1+1;omega) _;clear c0 f0 c2 f2 d2 g2 aB ac bd L T s aq a6 aG ah ax hL aX aZ bs bo a4;generalize F.setCell ⟨w.heap.size+1+1,1,none⟩ (.slice K (xP B).length A)=wC at *;clear w1 F wA wB;rw[i4,wk] at HC;go_wp2;go_loopw [9] (fun v9 wr=>∃(k:Nat) (c:y6) (t:Option Addr) (j:Nat) (m:Option Addr) (d:Nat),k<=args.length/\v9=.int .i64 k/\Hid (CR w.heap.size wr (w.heap.size+1+1) c (.slice t c.length j) (.slice m c.length d))/\Hid (xn B args row=xn c (args.drop k) (row.drop k))/\c.length<=B.length+k/\Hid (vG c)/\Hid (OZ wr (w.heap.size+1) #[.slice none 0 0,.slice none 0 0] 270)/\Hid (Below w.heap.size w wr)) (fun v9 _=>args.length-(intOf v9).toNat)
 case atStart=>exact⟨0,B,C,n,K,A,zv _,rfl,HC,rfl,zh _,hF,aT,aE⟩
 case round=>
  clear HC aT aE e1 e2;obtain⟨k,c,t,j,m,d,hk,rfl,HC,HW,bx,a3,HZ,U⟩:=hrel;have bv:=U.out.size;have ai:=HC.out.box;obtain⟨hc,hf,ar⟩:=ai.boxed;obtain⟨V,ab,ad⟩:=HZ.out.boxed;by_cases a1:k<args.length
  ·have aY:(k:Int)<(args.length:Int):=by omega
   have aj:k<row.length:=by omega
   obtain⟨g,rfl,hg,a0⟩:=HA.out _ k a1 U.out;obtain⟨gr,rfl,aM,aF⟩:=HR.out _ k aj U.out;have ht:=aJ _ (zu a1);have aS:=Fd (B:=c) a1 aj;have HV:Hid (∀W,Below wr.heap.size wr W->Calls prog 211 #[.agg #[.slice t c.length j,.slice m c.length d],.string args[k]] W fun e P=>e=.returned (.tuple #[.string (yc c args[k]),.bool (gs c args[k])])/\Hid (Below wr.heap.size wr P)/\P.cell? ⟨g,k,none⟩=some (.string args[k])/\P.cell? ⟨w.heap.size+1+1,0,none⟩=some (.slice t c.length j)/\P.cell? ⟨w.heap.size+1+1,1,none⟩=some (.slice m c.length d)):=fun W i=>by
    refine(BN W _ _ c args[k] (HC.out.sf.below i) (HC.out.ss.below i) (by omega) ht).mono ?_;rintro e P ⟨q1,q2⟩;have a9:=Pc i q2.out;have aL:=ai.below a9;exact⟨q1,a9,(zl a9 hg a0),by rw[aL.rules.1];rfl,by rw[aL.rules.1];rfl⟩
   have aD:Hid (∀W,Below wr.heap.size wr W->W.cell? ⟨g,k,none⟩=some (.string args[k])/\g<W.heap.size/\W.cell? ⟨gr,k,none⟩=some (.string row[k])/\gr<W.heap.size):=fun W i=>⟨(zl i hg a0),xo hg i.size,(zl i aM aF),xo aM i.size⟩;have bk:Hid (∀W,Below w.heap.size w W->W.cell? ⟨gr,k,none⟩=some (.string row[k])/\gr<W.heap.size):=fun W i=>by
    obtain⟨g',e,q1,q2⟩:=HR.out W k aj i;cases e;exact⟨q2,q1⟩
   have HD:=OY (HW.out.trans aS);have aK:=OY (Ik a3.out ht);have bh:=OY (aI _ (zu aj));clear aS HW ht aJ ai aI hF;generalize gs c args[k]=kn at *;generalize yc c args[k]=x at *;generalize args[k]=y at *;generalize row[k]=z at *;go_upto_region 7 with fail
   go_cut [10,11] from 31 to 39 (fun a2 az wx=>a2=.string x/\az=.bool kn/\Hid (Below wr.heap.size wr wx))
   case first=>
    go_region_held3 (fun P=>P.cell? ⟨g,k,none⟩=some (.string y)/\P.cell? ⟨w.heap.size+1+1,0,none⟩=some (.slice t c.length j)/\P.cell? ⟨w.heap.size+1+1,1,none⟩=some (.slice m c.length d)) (first|go_keep|(go_simp;done)) (first|(go_at_call 211;refine(HV.out _ (by exact(by repeat'(first|with_reducible(first|apply zR|assumption|apply zN|apply zA|apply zD|apply zS)|go_size)))).mono ?_;rintro e w5 ⟨rfl,bf,z0,z1,z2⟩))
    go_wp2;go_meet
    case rel=>exact⟨rfl,rfl,bf⟩
   case rest=>
    obtain⟨rfl,rfl,R⟩:=hcut;have bt:=R.out.size;obtain⟨aw,bg,X,au⟩:=aD.out _ R.out;have S:=OY (HZ.out.below R.out);have O:=OY (zM U.out R.out (by omega));have H:=OY (HC.out.below R.out);clear hc hf a0 aF ar V ab ad HV aD HC HZ U R;obtain⟨hc,hf,ar⟩:=H.out.box.boxed;obtain⟨V,ab,ad⟩:=S.out.boxed;by_cases hx:x=ByteArray.empty
    ·obtain rfl:kn=false:=by
      cases kn with
      |false=>rfl
      |true=>exact zC hx (aK.out.1 rfl)
     have bn:Hid (vG (c++[(y,z)])):=Kk a3.out bh.out;have J:Hid (xn B args row=xn (c++[(y,z)]) (args.drop (k+1)) (row.drop (k+1))):=by rw[Hid,HD.out,zb hx]
     have D:=H.out.fst;have o:=H.out.snd;clear HD hx;go_upto_region 11 with fail
     go_cut [10,11] from 52 to 60 (fun a2 az wx=>∃r f,a2=.string x/\az=.bool false/\Hid (OZ wx (w.heap.size+1+1) #[.slice r (c.length+1) f,.slice m c.length d] 270)/\Hid (wx.ownsRow w.heap.size 9 1 (.slice r (c.length+1) f) (c.length+1) ((xj c).map Value.string++[.string y]))/\Hid (wx.ownsRow w.heap.size 9 1 (.slice m c.length d) c.length ((xP c).map Value.string))/\Hid (∀b,(Value.slice r (c.length+1) f).ownBlock=some b->(Value.slice m c.length d).ownBlock≠some b)/\Hid (OZ wx (w.heap.size+1) #[.slice none 0 0,.slice none 0 0] 270)/\Hid (Below w.heap.size w wx))
     case first=>
      go_region_law (first|(refine dX wc _ [.string y] 9 rfl (.tmp 53) (.tmp 58) 30 rfl w.heap.size 9 i0 _ 1 16 underlying30 hi aR aQ aU rfl (by decide) (.slice t c.length j) c.length ((xj c).map Value.string) (by simp[Act.eval]) D (by exact(by repeat'(first|with_reducible(first|apply zR|assumption|apply zN|apply zA|apply zD|apply zS)|go_size))) wc.heap.size 1 (by simp[Act.eval]) (by exact OZ.drew (OZ.new _ _ _)) rfl (by simp[Value.oneCell']) (by omega) (by omega) (by omega) ?_;intro v' F M s af bm aH;obtain⟨r,f,rfl⟩:=zq M;have I:=H.out.box.save s (qD D H.out.box (by decide));obtain⟨aO,aV,ac⟩:=I.boxed))
      all_goals
       have ag:=yI o s (fun b i E=>H.out.ne b (yv E) i);have a7:=S.out.save s (qD D S.out (by decide));have ay:=s.below (B:=w.heap.size) (fun b i=>yW D (yv i)) (by omega);have ae:∀b,(Value.slice r (c.length+1) f).ownBlock=some b->(Value.slice m c.length d).ownBlock≠some b:=fun b i hq=>by
        rcases af with q|⟨g9,q,q2⟩
        ·exact H.out.ne b (q ▸ i) hq
        ·rw[i] at q;cases q;have:=yO o hq;omega
       have aa:Hid (OZ (F.setCell ⟨w.heap.size+1+1,0,none⟩ (.slice r (c.length+1) f)) (w.heap.size+1+1) #[.slice r (c.length+1) f,.slice m c.length d] 270):=I.set 0 _;have an:Hid ((F.setCell ⟨w.heap.size+1+1,0,none⟩ (.slice r (c.length+1) f)).ownsRow w.heap.size 9 1 (.slice r (c.length+1) f) (c.length+1) ((xj c).map Value.string++[.string y])):=yI M (zd.set _ _ _ _) (fun b i E=>xL M I (by decide) i (by simpa using E));have aA:Hid ((F.setCell ⟨w.heap.size+1+1,0,none⟩ (.slice r (c.length+1) f)).ownsRow w.heap.size 9 1 (.slice m c.length d) c.length ((xP c).map Value.string)):=yI ag (zd.set _ _ _ _) (fun b i E=>xL ag I (by decide) i (by simpa using E));have am:Hid (OZ (F.setCell ⟨w.heap.size+1+1,0,none⟩ (.slice r (c.length+1) f)) (w.heap.size+1) #[.slice none 0 0,.slice none 0 0] 270):=a7.set_ne (by omega) 0 _;have ap:Hid (Below w.heap.size w (F.setCell ⟨w.heap.size+1+1,0,none⟩ (.slice r (c.length+1) f))):=(O.out.trans ay).setCell (p:=⟨w.heap.size+1+1,0,none⟩) (by show w.heap.size<=w.heap.size+1+1;omega) _;go_wp2;go_meet
       case rel=>exact⟨r,f,rfl,rfl,aa,an,aA,ae,am,ap⟩
     case rest=>
      obtain⟨r,f,rfl,rfl,aa,an,aA,aW,am,ap⟩:=hcut;clear hc hf V ab ar ad aw X S O H D o bg au;obtain⟨X,au⟩:=bk.out _ ap.out;obtain⟨hc,hf,ar⟩:=aa.out.boxed;have o:=aA.out;go_upto_region 12 with fail
      go_region_law (first|(refine dX wc _ [.string z] 9 rfl (.tmp 62) (.tmp 67) 30 rfl w.heap.size 9 i0 _ 1 16 underlying30 hi aR aQ aU rfl (by decide) (.slice m c.length d) c.length ((xP c).map Value.string) (by simp[Act.eval]) o (by exact(by repeat'(first|with_reducible(first|apply zR|assumption|apply zN|apply zA|apply zD|apply zS)|go_size))) wc.heap.size 1 (by simp[Act.eval]) (by exact OZ.drew (OZ.new _ _ _)) rfl (by simp[Value.oneCell']) (by omega) (by omega) (by omega) ?_;intro v' F M s af bm aH;obtain⟨G,u,rfl⟩:=zq M;have I:=aa.out.save s (qD o aa.out (by decide));obtain⟨aO,aV,ac⟩:=I.boxed))
      all_goals
       have ag:=yI an.out s (fun b i E=>aW.out b i (yv E));have a7:=am.out.save s (qD o am.out (by decide));have ay:=s.below (B:=w.heap.size) (fun b i=>yW o (yv i)) (by omega);have ae:∀b,(Value.slice r (c.length+1) f).ownBlock=some b->(Value.slice G (c.length+1) u).ownBlock≠some b:=fun b i hq=>by
        rcases af with q|⟨g9,q,q2⟩
        ·exact aW.out b i (q ▸ hq)
        ·rw[hq] at q;cases q;have:=yO an.out i;omega
       have bi:Hid (CR w.heap.size (F.setCell ⟨w.heap.size+1+1,1,none⟩ (.slice G (c.length+1) u)) (w.heap.size+1+1) (c++[(y,z)]) (.slice r (c.length+1) f) (.slice G (c.length+1) u)):=by
        refine⟨I.set 1 _,?_,?_,ae⟩
        ·have q:=yI ag (zd.set F (w.heap.size+1+1) 1 (.slice G (c.length+1) u)) (fun b i E=>xL ag I (by decide) i (by simpa using E));rw[yz];simpa [xj] using q
        ·have q:=yI M (zd.set F (w.heap.size+1+1) 1 (.slice G (c.length+1) u)) (fun b i E=>xL M I (by decide) i (by simpa using E));rw[yz];simpa [xP] using q
       have ba:Hid (OZ (F.setCell ⟨w.heap.size+1+1,1,none⟩ (.slice G (c.length+1) u)) (w.heap.size+1) #[.slice none 0 0,.slice none 0 0] 270):=a7.set_ne (by omega) 1 _;have bp:Hid (Below w.heap.size w (F.setCell ⟨w.heap.size+1+1,1,none⟩ (.slice G (c.length+1) u))):=(ap.out.trans ay).setCell (p:=⟨w.heap.size+1+1,1,none⟩) (by show w.heap.size<=w.heap.size+1+1;omega) _;clear aO aV;generalize F.setCell ⟨w.heap.size+1+1,1,none⟩ (.slice G (c.length+1) u)=wN at *;go_wp2;go_roundw
       case rel=>exact⟨k+1,c++[(y,z)],r,f,G,u,by omega,by go_num,by rw[yz];exact bi,J,by simp;omega,bn,ba,bp⟩
       case measure=>simp[intOf];omega
    ·obtain rfl:kn=true:=aK.out.2 hx;by_cases hy:x=z
     ·have bb:=ka hy;have J:Hid (xn B args row=xn c (args.drop (k+1)) (row.drop (k+1))):=by rw[Hid,HD.out,za hx,zb hy]
      clear HD hx hy;go_wp2;go_roundw
      case rel=>exact⟨k+1,c,t,j,m,d,by omega,by go_num,H,J,by omega,a3,S,O⟩
      case measure=>simp[intOf];omega
     ·have bb:=qz hy;have J:Hid (xn B args row=none):=by rw[Hid,HD.out,za hx,za hy]
      clear HD hx hy;go_wp2;have a5:Hid (Below w.heap.size w ((wc.setCell ⟨w.heap.size+1,0,none⟩ (.slice t c.length j)).setCell ⟨w.heap.size+1,1,none⟩ (.slice m c.length d))):=(O.out.setCell (p:=⟨w.heap.size+1,0,none⟩) (by show w.heap.size<=w.heap.size+1;omega) _).setCell (p:=⟨w.heap.size+1,1,none⟩) (by show w.heap.size<=w.heap.size+1;omega) _;have N:=(S.out.set 0 (.slice t c.length j)).set 1 (.slice m c.length d);have n0:=N.rules.1 0;have n1:=N.rules.1 1;clear hc hf V ab aw X N;generalize (wc.setCell ⟨w.heap.size+1,0,none⟩ (.slice t c.length j)).setCell ⟨w.heap.size+1,1,none⟩ (.slice m c.length d)=wN at *
      (try simp only[Exit.inBlock,Exit.then])
      refine zJ (by simp[results,results196,go_sem,n0,n1];try rfl) rfl ?_;refine⟨_,_,_,_,_,_,by rw[J.out];rfl,fun B' Z=>(by rw[J.out] at Z;cases Z),?_⟩;exact a5
  ·have aY:¬(k:Int)<(args.length:Int):=by omega
   have J:Hid (xn B args row=some c):=by
    rw[Hid,HW.out,ui (by omega)];rfl
   clear HW;go_wp2;have a5:Hid (Below w.heap.size w ((wr.setCell ⟨w.heap.size+1,0,none⟩ (.slice t c.length j)).setCell ⟨w.heap.size+1,1,none⟩ (.slice m c.length d))):=(U.out.setCell (p:=⟨w.heap.size+1,0,none⟩) (by show w.heap.size<=w.heap.size+1;omega) _).setCell (p:=⟨w.heap.size+1,1,none⟩) (by show w.heap.size<=w.heap.size+1;omega) _;have q:∀{v:Value} {l:List ByteArray} (h:Pg w.heap.size wr v l),Pg w.heap.size ((wr.setCell ⟨w.heap.size+1,0,none⟩ (.slice t c.length j)).setCell ⟨w.heap.size+1,1,none⟩ (.slice m c.length d)) v l:=fun h=>yI h ((zd.set wr (w.heap.size+1) 0 _).trans (zd.set _ (w.heap.size+1) 1 _)) (fun b i E=>xL h HZ.out (by decide) i (by simpa using E));have q1:=q HC.out.sf;have q2:=q HC.out.ss;have N:=(HZ.out.set 0 (.slice t c.length j)).set 1 (.slice m c.length d);have n0:=N.rules.1 0;have n1:=N.rules.1 1;clear hc hf V ab N q ai;generalize (wr.setCell ⟨w.heap.size+1,0,none⟩ (.slice t c.length j)).setCell ⟨w.heap.size+1,1,none⟩ (.slice m c.length d)=wN at *
   (try simp only[Exit.inBlock,Exit.then])
   refine zJ (by simp[results,results196,go_sem,n0,n1];try rfl) rfl ?_;refine⟨_,_,_,_,_,_,by rw[J.out];rfl,fun B' Z=>?_,?_⟩
   ·rw[J.out] at Z;cases Z;exact⟨q1,q2,by omega⟩
   ·exact a5
end
end Go.Proofs.YteampbddflhngaaGreat
