import Derived.Test.YteampbddflhngaaGreatV24
namespace Go.Proofs.YteampbddflhngaaGreat
set_option linter.all false
set_option maxRecDepth 100000
set_option maxHeartbeats 4000000
open Go.Proofs.Tryz Go.RowKit
section
variable {lo:Nat}{ts':List zZ}
theorem O9:(prog.info? 284).map (fun i=>(i.zero,i.size,i.bytes))=some (some (.agg #[.bool false,.int .i64 0,.int .i64 0]),3,24):=by kernel_rfl
def qY(p:Nat)(ts:List zZ)(t:zZ):zZ:=if t.var then{t with level:=(yX ⟨p,ts⟩ t.num).getD 0} else t
def uc(ns vs:List ByteArray)(a:List Nat)(l:zj):List zZ:=l.args.map (uD ns vs a)
def zK(t:List zg)(ns vs:List ByteArray)(a:List Nat)(l:zj):zt:=⟨zF t l.pred,(uc ns vs a l).map (qY 0 (uc ns vs a l))⟩
def dS(t:zZ):Bool×Nat:=(t.var,t.num)
theorem I3{ts:List zZ}(h:ts.map dS=ts'.map dS)(p a q:Nat):zL ⟨p,ts⟩ q=zL ⟨a,ts'⟩ q:=by
 have e:∀l:List zZ,(l.any fun t=>t.var&&t.num == q)=(l.map dS).any fun x=>x.1&&x.2 == q:=fun l=>by
  rw[List.any_map];rfl
 simp only[zL];rw[e,e,h]
theorem I6{ts:List zZ}(h:ts.map dS=ts'.map dS)(p a q:Nat):yX ⟨p,ts⟩ q=yX ⟨a,ts'⟩ q:=by
 unfold yX;have:zL ⟨p,ts⟩=zL ⟨a,ts'⟩:=funext (I3 h p a);rw[this]
theorem Kz(p:Nat)(ts:List zZ)(t:zZ):dS (qY p ts t)=dS t:=by
 unfold qY;split<;>rfl
def vj(ts:List zZ)(k:Nat):List zZ:=(ts.take k).map (qY 0 ts)++ts.drop k
theorem DE(ts:List zZ)(k:Nat):(vj ts k).map dS=ts.map dS:=by
 unfold vj;rw[vB,List.map_map,List.map_drop,show(dS ∘ qY 0 ts)=dS from funext (Kz 0 ts),List.map_take,qO]
theorem K4(ts:List zZ)(k:Nat):(vj ts k).length=ts.length:=by
 have:=congrArg List.length (DE ts k);simpa using this
theorem KT(ts:List zZ)(k:Nat)(a:k<ts.length):(vj ts k)[k]?=some ts[k]:=by
 unfold vj;rw[g6 (by simp;omega),uH,qa,gP (by omega),jK,List.getElem?_drop];simp[a]
theorem Gw(ts:List zZ)(k:Nat)(a:k<ts.length):(vj ts k).set k (qY 0 ts ts[k])=vj ts (k+1):=by
 unfold vj;rw[fA _ _ (by simp;omega),uH,qa,gP (by omega),jK,xg a,rp,yM a,vB,ki];rfl
theorem Jw(ts:List zZ):vj ts 0=ts:=by simp[vj]
theorem BS(ts:List zZ):vj ts ts.length=ts.map (qY 0 ts):=by simp[vj]
theorem Ku{l:zt}{q:Nat}(a:q<=1000000):(yX l q).getD 0<=1000000:=by
 unfold yX;split
 ·have:=ri (p:=zL l) (l:=List.range q);simp at this ⊢;omega
 ·simp
theorem Fk(ns:List ByteArray)(x:ByteArray):(yT ns x).getD 0<=ns.length:=by
 unfold yT;split
 ·simp;omega
 ·simp
theorem Hy(vs:List ByteArray)(a:List Nat)(n:ByteArray)(h:∀x∈a,x<=1000):ut vs a n<=1000:=by
 unfold ut;split
 ·omega
 ·split
  ·omega
  ·rename_i k _ _;by_cases b:k<a.length
   ·rw[gV,yq b];exact h _ (zu b)
   ·rw[gV,kR (by omega)];simp
theorem EA(ns vs:List ByteArray)(a:List Nat)(x:ByteArray)(h:∀y∈a,y<=1000)(b:ns.length<=1000):(uD ns vs a x).num<=1000/\(uD ns vs a x).level=0:=by
 unfold uD;split
 ·exact⟨Hy vs a x h,rfl⟩
 ·have:=Fk ns x;exact⟨by simp only;omega,rfl⟩
theorem eD{α:Type}{l:List α}{k:Nat}{x:α}(h:l[k]?=some x):l.set k x=l:=by
 obtain⟨a,e⟩:=jG.1 h;rw[←e];exact sW a
theorem F7(ts:List zZ)(k:Nat)(t:zZ)(b:Nat)(h:ts[k]?=some t):(Pz (ts.map j6)).set (k*3+2) (.int .i64 b)=Pz ((ts.set k {t with level:=b}).map j6):=by
 obtain⟨f,e⟩:=jG.1 h;have a:k<(ts.map j6).length:=by simpa using f
 have q:=wY (ts.map j6) k a (.bool t.var) (.int .i64 t.num) (.int .i64 b);obtain⟨d,c,_⟩:=t7 (ts.map j6) k a;simp only[vO,e,j6] at d c;rw[eD d,eD c] at q;rw[q,fu];rfl
def gQ(ts:List zZ)(k:Nat):List zZ:=ts.take k++List.replicate (ts.length-k) ⟨false,0,0⟩
theorem Nz(ts:List zZ)(k:Nat)(a:k<=ts.length):(gQ ts k).length=ts.length:=by simp[gQ];omega
theorem LJ(ts:List zZ)(k:Nat)(b:k<ts.length):(gQ ts k).set k ts[k]=gQ ts (k+1):=by
 unfold gQ;obtain⟨m,a⟩:∃m,ts.length-k=m+1:=⟨ts.length-k-1,by omega⟩;rw[fA _ _ (by simp;omega),qa,gP (by omega),jK,a,pN,rp,show ts.length-(k+1)=m from by omega,yM b,ki];rfl
theorem JH(ts:List zZ):gQ ts ts.length=ts:=by simp[gQ]
theorem C9(ts:List zZ)(k:Nat)(h:∀x∈ts,x.num<=1000/\x.level=0):∀x∈vj ts k,x.num<=1000000/\x.level<=1000000:=by
 intro x a;unfold vj at a;rw[zW] at a;rcases a with a|a
 ·rw[zB] at a;obtain⟨y,b,rfl⟩:=a;have:=h y (fD b);unfold qY;split
  ·exact⟨by simp only;omega,Ku (by omega)⟩
  ·omega
 ·have:=h x (g4 a);omega
theorem iJ{w:World}{d:Nat}{e:TypeId}{g n cap m:Nat}{f:List (Value×Value×Value)}(h:w.ownsRow d e 3 (.slice (some ⟨g,0,none⟩) n cap) m (Pz f))(k:Nat)(i:k<f.length):
  ∃a b c,g<w.heap.size/\w.cell? ⟨g,k*3,none⟩=some a/\w.cell? ⟨g,k*3+1,none⟩=some b/\w.cell? ⟨g,k*3+2,none⟩=some c:=⟨_,_,_,iZ h k i⟩
theorem Al{az a2:Nat}(w:World)(mb tb o cb sb:Nat)(t:List zg)(ns vs:List ByteArray)(s:List Nat)(l:zj)(va:Value)(h:mh lo w mb tb o cb t ns)(hs:kQ az w sb vs s)(hl:vs.length<=1000)(a4:∀y∈s,y<=1000)(ha:Pg a2 w va l.args)(ac:l.args.length<=1000):
  Calls prog 160 #[.pointer (some ⟨mb,0,none⟩),.agg #[.bool l.neg,.string l.pred,va],.pointer (some ⟨sb,0,none⟩)] w fun e K=>∃tv,e=.returned (.agg #[.int .i64 (zF t l.pred:Nat),tv])/\yh w.heap.size K tv (zK t ns vs s l).qg/\Below w.heap.size w K:=by
 obtain⟨i0,hi,a5,a3,aB⟩:=info_parts O9;obtain⟨ao,A,rfl⟩:=ha.qw;have ag:=fun W:World=>run_make (P:=prog) (w:=W) 202 284 i0 _ underlying202 hi a5 .i64 .i64 (l.args.length:Int) (l.args.length:Int) (by omega) (Int.le_refl _) (by rw[aB];omega) (by omega);rw[a3] at ag;have HF:=OY fun W N=>Eb lo W tb o t l.pred (h.2.1.below N) h.2.2.2.1;have HT:=OY fun W x N=>NH W mb tb o cb sb t ns vs s x (h.below N) (hs.below N) hl;have ab:Hid (∀x∈uc ns vs s l,x.num<=1000/\x.level=0):=fun x hx=>by
  simp only[uc,zB] at hx;obtain⟨y,_,rfl⟩:=hx;exact EA ns vs s y a4 h.2.2.2.2
 have HE:Hid ((zK t ns vs s l).qg=(uc ns vs s l).map (qY 0 (uc ns vs s l))):=rfl;have n:(uc ns vs s l).length=l.args.length:=by simp[uc]
 have ae:Hid (∀k (hk:k<l.args.length) (aA:k<(uc ns vs s l).length),uD ns vs s l.args[k]=(uc ns vs s l)[k]):=fun k hk aA=>by simp[uc]
 obtain⟨ah,a6,aJ⟩:=h.1.boxed;have aE:w.cell? ⟨mb,0,none⟩=some (.pointer (some ⟨tb,o,none⟩)):=by rw[ah];rfl
 clear h hs ah;generalize uc ns vs s l=b at *;generalize zF t l.pred=D at *;generalize (zY t l.pred).isSome=fb at *;go_enter func160,ntmps160;go_upto_region 1 with fail
 go_quiet ((go_at_call 77;exact Calls.quiet_of_same (HF.out _ (by exact(by repeat'(first|with_reducible(first|apply zR|assumption|apply zN|apply zA|apply zD|apply zS)|go_size))))))
 go_upto_region 4 with fail
 have a:=zE (F6 ((((w.alloc (.cells #[.bool l.neg,.string l.pred,.slice ao l.args.length A] 90)).alloc (.cells #[.int .i64 0,.slice none 0 0] 204)).drewN nq)) l.args.length 284 (.bool false) (.int .i64 0) (.int .i64 0) (by unfold maxLen;omega)) ((zo _ _).alloc (zh _) (.cells #[.int .i64 D,.slice (some ⟨w.heap.size+1+1,0,none⟩) l.args.length l.args.length] 204));have c:=OZ.new ((((w.alloc (.cells #[.bool l.neg,.string l.pred,.slice ao l.args.length A] 90)).alloc (.cells #[.int .i64 0,.slice none 0 0] 204)).drewN nq).alloc (.cells (madeCells #[.bool false,.int .i64 0,.int .i64 0] (l.args.length*3)) 284)) #[.int .i64 D,.slice (some ⟨w.heap.size+1+1,0,none⟩) l.args.length l.args.length] 204;have d:=(((OZ.new (w.alloc (.cells #[.bool l.neg,.string l.pred,.slice ao l.args.length A] 90)) #[.int .i64 0,.slice none 0 0] 204).below (zI (zo _ _) nq)).below ((zo _ _).alloc (zh _) (.cells (madeCells #[.bool false,.int .i64 0,.int .i64 0] (l.args.length*3)) 284))).below ((zo _ _).alloc (zh _) (.cells #[.int .i64 D,.slice (some ⟨w.heap.size+1+1,0,none⟩) l.args.length l.args.length] 204));have R:Below w.heap.size w (((((w.alloc (.cells #[.bool l.neg,.string l.pred,.slice ao l.args.length A] 90)).alloc (.cells #[.int .i64 0,.slice none 0 0] 204)).drewN nq).alloc (.cells (madeCells #[.bool false,.int .i64 0,.int .i64 0] (l.args.length*3)) 284)).alloc (.cells #[.int .i64 D,.slice (some ⟨w.heap.size+1+1,0,none⟩) l.args.length l.args.length] 204)):=(by repeat'(first|with_reducible(first|apply zR|assumption|apply zN|apply zA|apply zD|apply zS)|go_size));have J:(((w.alloc (.cells #[.bool l.neg,.string l.pred,.slice ao l.args.length A] 90)).alloc (.cells #[.int .i64 0,.slice none 0 0] 204)).drewN nq).heap.size=w.heap.size+1+1:=by simp
 simp only[World.size_alloc,J] at a c d;clear J;generalize ((((w.alloc (.cells #[.bool l.neg,.string l.pred,.slice ao l.args.length A] 90)).alloc (.cells #[.int .i64 0,.slice none 0 0] 204)).drewN nq).alloc (.cells (madeCells #[.bool false,.int .i64 0,.int .i64 0] (l.args.length*3)) 284)).alloc (.cells #[.int .i64 D,.slice (some ⟨w.heap.size+1+1,0,none⟩) l.args.length l.args.length] 204)=w3 at *;have aC:=R.size;have H0:Hid (Pz (List.replicate l.args.length (Value.bool false,Value.int .i64 0,Value.int .i64 0))=Pz ((gQ b 0).map j6)):=by
  rw[Hid,gQ,List.take_zero,n4,Nat.sub_zero,n,List.map_replicate];rfl
 rw[H0.out] at a;clear H0 ag aE a6 HF;have a:=yr a (show w.heap.size<=w.heap.size+1+1 by omega);go_loopw [35] (fun aG wr=>∃k:Nat,k<=l.args.length/\aG=.int .i64 k/\OZ wr (w.heap.size+1+1+1) #[.int .i64 D,.slice (some ⟨w.heap.size+1+1,0,none⟩) l.args.length l.args.length] 204/\OZ wr (w.heap.size+1) #[.int .i64 0,.slice none 0 0] 204/\wr.ownsRow w.heap.size 284 3 (.slice (some ⟨w.heap.size+1+1,0,none⟩) l.args.length l.args.length) l.args.length (Pz ((gQ b k).map j6))/\Below w.heap.size w wr) (fun i _=>l.args.length-(intOf i).toNat)
 case atStart=>exact⟨0,zv _,rfl,c,d,a,R⟩
 case round=>
  clear a c d;obtain⟨k,hk,rfl,c,d,a,j⟩:=hrel;have L:=j.size;by_cases r:k<l.args.length
  ·obtain⟨g,rfl,hg,G⟩:=ha.cell k r;have aK:=zl j hg G;have aM:g<wr.heap.size:=by omega
   have u:=OY (LJ b k (by omega));have au:=OY (ae.out k r (by omega));have aL:=Nz b k (by omega);obtain⟨e0,e1,e2,aD,E,V,aa⟩:=iJ a k (by simp;omega);have ar:=qt a;obtain⟨F,I,H⟩:=c.boxed;have aI:wr.cell? ⟨w.heap.size+1+1+1,1,none⟩=some (.slice (some ⟨w.heap.size+1+1,0,none⟩) l.args.length l.args.length):=by rw[F];rfl
   clear G;have a7:Hid (∀W,Below wr.heap.size wr W->Calls prog 186 #[.pointer (some ⟨mb,0,none⟩),.string l.args[k],.pointer (some ⟨sb,0,none⟩)] W fun e K=>e=.returned (.agg #[.bool b[k].var,.int .i64 (b[k].num:Nat),.int .i64 (b[k].level:Nat)])/\Below W.heap.size W K):=fun W N=>by
    have q:=HT.out W l.args[k] (Pc j N);rw[au.out] at q;exact q
   generalize b[k]=tk at *;generalize l.args[k]=x at *;generalize (gQ b k)=lk at *;go_wp2;go_region_held3 (fun K=>K.cell? ⟨w.heap.size+1+1+1,1,none⟩=some (.slice (some ⟨w.heap.size+1+1,0,none⟩) l.args.length l.args.length)) (first|go_keep|(go_simp;done)) (first|(go_at_call 186;refine(a7.out _ (by exact(by repeat'(first|with_reducible(first|apply zR|assumption|apply zN|apply zA|apply zD|apply zS)|go_size)))).mono ?_;rintro e Y ⟨rfl,S⟩;have m:Below wr.heap.size wr Y:=(zM (by repeat'(first|with_reducible(first|apply zR|assumption|apply zN|apply zA|apply zD|apply zS)|go_size)) S (zh _));have B:=c.below m;have T:=d.below m;have p:=zE a m;obtain⟨ai,ak,ad⟩:=B.boxed;obtain⟨f0,f1,f2,a8,a0,aw,aq⟩:=iJ p k (by simp;omega);have aj:=qt p;have ap:=m.size))
   have f:=Mw p k (by simp;omega) (.bool tk.var) (.int .i64 tk.num) (.int .i64 tk.level);have HM:(lk.map j6).set k (.bool tk.var,.int .i64 tk.num,.int .i64 tk.level)=(gQ b (k+1)).map j6:=by rw[←u.out,fu];rfl
   rw[HM] at f;have Z:=((B.set_ne (show w.heap.size+1+1+1≠w.heap.size+1+1 by omega) (k*3) (.bool tk.var)).set_ne (show w.heap.size+1+1+1≠w.heap.size+1+1 by omega) (k*3+1) (.int .i64 tk.num)).set_ne (show w.heap.size+1+1+1≠w.heap.size+1+1 by omega) (k*3+2) (.int .i64 tk.level);have X:=((T.set_ne (show w.heap.size+1≠w.heap.size+1+1 by omega) (k*3) (.bool tk.var)).set_ne (show w.heap.size+1≠w.heap.size+1+1 by omega) (k*3+1) (.int .i64 tk.num)).set_ne (show w.heap.size+1≠w.heap.size+1+1 by omega) (k*3+2) (.int .i64 tk.level);have U:Below w.heap.size w (((Y.setCell ⟨w.heap.size+1+1,k*3,none⟩ (.bool tk.var)).setCell ⟨w.heap.size+1+1,k*3+1,none⟩ (.int .i64 tk.num)).setCell ⟨w.heap.size+1+1,k*3+2,none⟩ (.int .i64 tk.level)):=(((Pc j m).setCell (by simp;omega) _).setCell (by simp;omega) _).setCell (by simp;omega) _;generalize ((Y.setCell ⟨w.heap.size+1+1,k*3,none⟩ (.bool tk.var)).setCell ⟨w.heap.size+1+1,k*3+1,none⟩ (.int .i64 tk.num)).setCell ⟨w.heap.size+1+1,k*3+2,none⟩ (.int .i64 tk.level)=w5 at *;go_wp2;go_roundw
   case rel=>exact⟨k+1,by omega,by go_num,Z,X,f,U⟩
   case measure=>simp[intOf];omega
  ·obtain rfl:k=l.args.length:=by omega
   rw[←n,JH] at a;rw[←n] at c;clear r hk;obtain⟨F,I,H⟩:=c.boxed;go_wp2;clear F I H;rw[←n] at ac ⊢;clear R aC HT ae n;go_loopw [52] (fun aF wr=>∃k:Nat,k<=b.length/\aF=.int .i64 k/\OZ wr (w.heap.size+1+1+1) #[.int .i64 D,.slice (some ⟨w.heap.size+1+1,0,none⟩) b.length b.length] 204/\OZ wr (w.heap.size+1) #[.int .i64 0,.slice none 0 0] 204/\wr.ownsRow w.heap.size 284 3 (.slice (some ⟨w.heap.size+1+1,0,none⟩) b.length b.length) b.length (Pz ((vj b k).map j6))/\Below w.heap.size w wr) (fun i _=>b.length-(intOf i).toNat)
   case atStart=>exact⟨0,zv _,rfl,c,d,by rw[Jw];exact a,j⟩
   case round=>
    clear a c d j L;obtain⟨k,hk,rfl,c,d,a,j⟩:=hrel;have L:=j.size;by_cases r:k<b.length
    ·have a1:=K4 b k;have C:=OY (KT b k r);have u:=OY (Gw b k r);have an:Hid (yX ⟨D,vj b k⟩ b[k].num=yX ⟨0,b⟩ b[k].num):=I6 (DE b k) _ _ _;have z:Hid (qY 0 b b[k]=if b[k].var then{b[k] with level:=(yX ⟨0,b⟩ b[k].num).getD 0} else b[k]):=rfl;have M:=C9 b k ab.out;have aH:=(ab.out b[k] (zu r)).1;obtain⟨aD,E,V,aa⟩:=iZ a k (by simp;omega);have am:k<(vj b k).length:=by omega
     have af:(vj b k)[k]=b[k]:=by have q:=C.out;rw[yq am] at q;simpa using q
     simp only[vO,af,j6] at E V aa;have ar:=qt a;obtain⟨F,I,H⟩:=c.boxed;have al:Hid (yh w.heap.size wr (.slice (some ⟨w.heap.size+1+1,0,none⟩) b.length b.length) (vj b k)):=⟨by rw[a1];exact a,by omega,M⟩;have ay:Hid (∀W,Below wr.heap.size wr W->Calls prog 187 #[.agg #[.int .i64 D,.slice (some ⟨w.heap.size+1+1,0,none⟩) b.length b.length],.int .i64 (b[k].num:Nat)] W fun e K=>e=.returned (.tuple #[.int .i64 (((yX ⟨0,b⟩ b[k].num).getD 0:Nat):Int),.bool (yX ⟨0,b⟩ b[k].num).isSome])/\Below W.heap.size W K):=fun W N=>by
      have q:=Et W _ D b[k].num (vj b k) (al.out.below N) (by omega);rw[an.out] at q;exact q
     clear am af an M al;generalize b[k]=tk at *;generalize vj b k=O at *;generalize (yX ⟨0,b⟩ tk.num).getD 0=Q at *;generalize (yX ⟨0,b⟩ tk.num).isSome=lb at *;cases hv:tk.var with
     |false=>
      rw[hv] at E z;simp only[kL,if_false] at z;go_wp2;have av:Hid (O=vj b (k+1)):=by
       rw[Hid,←u.out,z.out];exact(eD C.out).symm
      go_roundw
      case rel=>exact⟨k+1,by omega,by go_num,c.below (by repeat'(first|with_reducible(first|apply zR|assumption|apply zN|apply zA|apply zD|apply zS)|go_size)),d.below (by repeat'(first|with_reducible(first|apply zR|assumption|apply zN|apply zA|apply zD|apply zS)|go_size)),by rw[←av.out];exact zE a (by repeat'(first|with_reducible(first|apply zR|assumption|apply zN|apply zA|apply zD|apply zS)|go_size)),zM j (by repeat'(first|with_reducible(first|apply zR|assumption|apply zN|apply zA|apply zD|apply zS)|go_size)) (zh _)⟩
      case measure=>simp[intOf];omega
     |true=>
      rw[hv] at E z;simp only[if_true] at z;have aN:wr.heap.size≠w.heap.size+1+1:=by omega
      go_upto_region 13 with (first|(go_at_call 187;refine(ay.out _ (by exact(by repeat'(first|with_reducible(first|apply zR|assumption|apply zN|apply zA|apply zD|apply zS)|go_size)))).mono ?_;rintro e Y ⟨rfl,S⟩;have m:Below wr.heap.size wr Y:=(zM (by repeat'(first|with_reducible(first|apply zR|assumption|apply zN|apply zA|apply zD|apply zS)|go_size)) S (zh _));have B:=c.below m;have T:=d.below m;have p:=zE a m;obtain⟨ai,ak,ad⟩:=B.boxed;obtain⟨f0,f1,f2,a8,a0,aw,aq⟩:=iJ p k (by simp;omega);have aj:=qt p;have ap:=m.size))
      have f:=uK p (k*3+2) (by rw[pX];simp;omega) (.int .i64 Q);have Z:=B.set_ne (show w.heap.size+1+1+1≠w.heap.size+1+1 by omega) (k*3+2) (.int .i64 Q);have X:=T.set_ne (show w.heap.size+1≠w.heap.size+1+1 by omega) (k*3+2) (.int .i64 Q);have U:Below w.heap.size w (Y.setCell ⟨w.heap.size+1+1,k*3+2,none⟩ (.int .i64 Q)):=((Pc j m).setCell (by simp;omega) _);have HM:Hid ((Pz (O.map j6)).set (k*3+2) (.int .i64 Q)=Pz ((vj b (k+1)).map j6)):=by
       rw[Hid,←u.out,z.out];exact F7 O k tk Q C.out
      rw[HM.out] at f;clear E V aa;go_wp2;generalize Y.setCell ⟨w.heap.size+1+1,k*3+2,none⟩ (.int .i64 Q)=w5 at *;go_roundw
      case rel=>exact⟨k+1,by omega,by go_num,Z,X,f,U⟩
      case measure=>simp[intOf];omega
    ·obtain rfl:k=b.length:=by omega
     rw[BS] at a;obtain⟨F,I,H⟩:=c.boxed;obtain⟨a9,aO,aP⟩:=d.boxed;have ax:Hid (∀x∈b.map (qY 0 b),x.num<=1000000/\x.level<=1000000):=by rw[←BS];exact C9 b _ ab.out
     go_wp2
     (try simp only[Exit.inBlock,Exit.then])
     refine zJ (v:=.agg #[.int .i64 D,.slice (some ⟨w.heap.size+1+1,0,none⟩) b.length b.length]) (by simp[results,results160,go_sem,a9]) rfl ⟨_,rfl,?_,(j.setCell (by simp) _).setCell (by simp) _⟩;rw[HE.out];refine⟨?_,by simpa using ac,ax.out⟩;rw[uH];exact xQ a (((Pm.refl (w.heap.size+1) wr).setCell 0 _).setCell 1 _) d (by decide)
end
end Go.Proofs.YteampbddflhngaaGreat
