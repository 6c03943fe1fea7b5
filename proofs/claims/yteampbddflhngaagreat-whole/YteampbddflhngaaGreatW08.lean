import Derived.Test.YteampbddflhngaaGreatW07
import Derived.Deep.OwnRows
import Derived.Deep.RegionWith
import Derived.Laws.CopyOwn
import Derived.Maps.AppendAt
import Derived.Test.YteampbddflhngaaGreatW01

namespace Go.Proofs.YteampbddflhngaaGreat
set_option maxRecDepth 100000
set_option maxHeartbeats 2000000
open Go.RowKit
variable {lo:Nat}
theorem zx4(w:World)(n:Nat)(T:TypeId)(z:Value)(hn:n<=maxLen):(w.alloc (.cells (madeCells #[z] n) T)).ownsRow w.heap.size T 1 (.slice (some ⟨w.heap.size,0,none⟩) n n) n (List.replicate n z):=by
 refine⟨by simp,Or.inr ⟨w.heap.size,n,madeCells #[z] n,rfl,uaa _,?_,uaa _,hn,by rw[size_madeCells];omega,?_⟩⟩
 ·show(w.heap.push _)[w.heap.size]?=_
  simp
 ·apply uce
  intro i
  by_cases hi:i < n
  ·simp[hi,madeCells,Nat.mod_one]
  ·simp[List.getElem?_take,hi]
def zl4{α:Type}(f:α->Value)(l:List α)(z:Value)(k:Nat):List Value:=(l.take k).map f++List.replicate (l.length - k) z
theorem zxn{α:Type}(f:α->Value)(l:List α)(z:Value)(k:Nat)(hk:k < l.length):(zl4 f l z k).set k (f l[k])=zl4 f l z (k+1):=by
 unfold zl4
 have h1:((l.take k).map f).length=k:=by simp;omega
 rw[ubd _ _ (by omega),h1,ubs,uae hk,ua8,uba]
 congr 1
 rw[show l.length - k=(l.length - (k+1))+1 by omega,ucc]
 rfl
theorem zm8{α:Type}(f:α->Value)(l:List α)(z:Value)(k:Nat)(hk:k<=l.length):(zl4 f l z k).length=l.length:=by unfold zl4;simp;omega
theorem ztb{α:Type}(f:α->Value)(l:List α)(z:Value):zl4 f l z 0=List.replicate l.length z:=by simp[zl4]
theorem zxm{α:Type}(f:α->Value)(l:List α)(z:Value)(k:Nat)(hk:¬ k < l.length):zl4 f l z k=l.map f:=by
 unfold zl4;rw[uam (by omega),show l.length - k=0 by omega];simp
theorem zn0(w:World)(v:Value)(l:List ByteArray)(hs:SIn lo w v l)(hl:l.length<=1000) :
  Calls Tryz.prog 170 #[v] w fun e w'=>∃ g,w.heap.size<=g/\e=.returned (.slice (some ⟨g,0,none⟩) l.length l.length)/\SIn w.heap.size w' (.slice (some ⟨g,0,none⟩) l.length l.length) l/\Below w.heap.size w w':=by
 obtain⟨ao,cap,rfl⟩:=hs.shape
 have hmk:=run_make_row' (P:=Tryz.prog) 30 9 (.string ByteArray.empty) 16 Tryz.underlying30 Tryz.infoString rfl .i64 .i64 l.length (by omega) (by omega)
 go_enter Tryz.func170,Tryz.ntmps170
 go_wp2
 clear hmk
 have hom:=zx4 w l.length 9 (.string ByteArray.empty) (by unfold maxLen;omega)
 rw[← ztb Value.string] at hom
 go_loopw [11] (fun i wr=>∃ k:Nat,k<=l.length/\i=.int .i64 k/\Below w.heap.size w wr/\wr.ownsRow w.heap.size 9 1 (.slice (some ⟨w.heap.size,0,none⟩) l.length l.length) l.length (zl4 Value.string l (.string ByteArray.empty) k)) (fun i _=>l.length - (intOf i).toNat)
 case atStart=>exact⟨0,uaj _,rfl,(by go_grown),hom⟩
 case round =>
  clear hom
  obtain⟨k,hk,rfl,hbk,hown⟩:=hrel
  have hszk:=hbk.size
  by_cases hlt:k < l.length
  ·obtain⟨g,rfl,hg,hck⟩:=hs.cell k hlt
   have hxk:=(hbk.cell (p:=⟨g,k,none⟩) hg).trans hck
   have hgr:g < wr.heap.size:=by omega
   have hset:=zb4 hown k (by rw[zm8 _ _ _ _ hk];exact hlt) (.string l[k])
   rw[zxn Value.string l _ k hlt] at hset
   have HSET:Hid ((wr.setCell ⟨w.heap.size,k,none⟩ (.string l[k])).ownsRow w.heap.size 9 1 (.slice (some ⟨w.heap.size,0,none⟩) l.length l.length) l.length (zl4 Value.string l (.string ByteArray.empty) (k+1))):=hset
   have hfz:=zbt hown
   obtain⟨g2,cap2,hv2,_,hg2,hcl2⟩:=zal hown (by omega)
   simp at hv2
   obtain⟨rfl,_⟩:=hv2
   have hck2:∃ u,wr.cell? ⟨w.heap.size,k,none⟩=some u:=⟨_,hcl2 k _ (uac (by rw[zm8 _ _ _ _ hk];exact hlt))⟩
   obtain⟨u0,hu0⟩:=hck2
   clear hck hset hcl2
   generalize l[k]=x at *
   go_wp2
   go_roundw
   case rel=>exact⟨k+1,by omega,by go_num,(by go_grown),HSET⟩
   case measure=>simp[intOf];omega
  ·rw[zxm _ _ _ _ hlt] at hown
   go_wp2
   go_ret
   exact⟨_,uaa _,rfl,hown,hbk⟩
theorem zz6(B:Nat)(w:World)(tb:Nat)(t:List zar)(h:TP B w tb t)(hl:t.length<=1000) :
  Calls Tryz.prog 132 #[.pointer (some ⟨tb,1,none⟩)] w fun e w'=>∃ g,w.heap.size<=g/\e=.returned (.slice (some ⟨g,0,none⟩) t.length t.length)/\SIn w.heap.size w' (.slice (some ⟨g,0,none⟩) t.length t.length) (t.map zar.name)/\Below w.heap.size w w':=by
 obtain⟨cv,ao,cap,hbx,hown⟩:=h.view
 obtain⟨hc,hf⟩:=hbx.rules
 have hlt:=hbx.lt
 have hmk:=run_make_row' (P:=Tryz.prog) 30 9 (.string ByteArray.empty) 16 Tryz.underlying30 Tryz.infoString rfl .i64 .i64 t.length (by omega) (by omega)
 go_enter Tryz.func132,Tryz.ntmps132
 go_wp2
 clear hmk
 have hom:=zx4 w t.length 9 (.string ByteArray.empty) (by unfold maxLen;omega)
 rw[← ztb (fun e:zar=>Value.string e.name)] at hom
 go_loopw [17] (fun i wr=>∃ k:Nat,k<=t.length/\i=.int .i64 k/\Below w.heap.size w wr/\wr.ownsRow w.heap.size 9 1 (.slice (some ⟨w.heap.size,0,none⟩) t.length t.length) t.length (zl4 (fun e:zar=>Value.string e.name) t (.string ByteArray.empty) k)) (fun i _=>t.length - (intOf i).toNat)
 case atStart=>exact⟨0,uaj _,rfl,(by go_grown),hom⟩
 case round =>
  clear hom hc hf
  obtain⟨k,hk,rfl,hbk,hownk⟩:=hrel
  have hszk:=hbk.size
  by_cases hkt:k < t.length
  ·obtain⟨g,rfl,hg,_,hd0,hd1,hd2⟩:=zds hown k hkt
   have hx0:=(hbk.cell (p:=⟨g,k * 3,none⟩) hg).trans hd0
   have hx1:=(hbk.cell (p:=⟨g,k * 3+1,none⟩) hg).trans hd1
   have hx2:=(hbk.cell (p:=⟨g,k * 3+2,none⟩) hg).trans hd2
   have hgr:g < wr.heap.size:=by omega
   have hset:=zb4 hownk k (by rw[zm8 _ _ _ _ hk];exact hkt) (.string t[k].name)
   rw[zxn (fun e:zar=>Value.string e.name) t _ k hkt] at hset
   have HSET:Hid ((wr.setCell ⟨w.heap.size,k,none⟩ (.string t[k].name)).ownsRow w.heap.size 9 1 (.slice (some ⟨w.heap.size,0,none⟩) t.length t.length) t.length (zl4 (fun e:zar=>Value.string e.name) t (.string ByteArray.empty) (k+1))):=hset
   have hfz:=zbt hownk
   obtain⟨g2,cap2,hv2,_,hg2,hcl2⟩:=zal hownk (by omega)
   simp at hv2
   obtain⟨rfl,_⟩:=hv2
   have hck2:∃ u,wr.cell? ⟨w.heap.size,k,none⟩=some u:=⟨_,hcl2 k _ (uac (by rw[zm8 _ _ _ _ hk];exact hkt))⟩
   obtain⟨u0,hu0⟩:=hck2
   clear hd0 hd1 hd2 hset hcl2
   generalize t[k]=x at *
   go_wp2
   go_roundw
   case rel=>exact⟨k+1,by omega,by go_num,(by go_grown),zaa HSET.out ((Below.refl _ _).alloc (uaa _) _)⟩
   case measure=>simp[intOf];omega
  ·rw[zxm _ _ _ _ hkt] at hownk
   have hs:SIn w.heap.size wr (.slice (some ⟨w.heap.size,0,none⟩) t.length t.length) (t.map zar.name):=by simpa [SIn,Function.comp_def] using hownk
   go_wp2
   go_ret
   exact⟨_,uaa _,rfl,hs,hbk⟩
def zkr(lo:Nat)(w:World)(pb:Nat)(cs:List zab)(t:List zar):Prop:=lo<=pb/\∃ v pv,Box w pb #[v,pv] 131/\CIn lo 171 w v cs/\w.ownsRow lo 221 3 pv t.length (zcb t)
theorem zkr.table{w:World}{pb:Nat}{cs:List zab}{t:List zar}(h:zkr lo w pb cs t):TP lo w pb t:=by
 obtain⟨_,v,pv,h1,_,h3⟩:=h;exact⟨v,pv,h1,h3⟩
theorem zkr.below{w w':World}{pb:Nat}{cs:List zab}{t:List zar}(h:zkr lo w pb cs t)(hb:Below w.heap.size w w'):zkr lo w' pb cs t:=by
 obtain⟨h0,v,pv,h1,h2,h3⟩:=h;exact⟨h0,v,pv,h1.below hb,h2.below hb,zaa h3 hb⟩
theorem zz7(w:World)(pb:Nat)(cs:List zab)(t:List zar)(h:zkr lo w pb cs t)(hl:t.length<=1000) :
  Calls Tryz.prog 86 #[.pointer (some ⟨pb,0,none⟩)] w fun e w'=>∃ g,w.heap.size<=g/\e=.returned (.slice (some ⟨g,0,none⟩) t.length t.length)/\SIn w.heap.size w' (.slice (some ⟨g,0,none⟩) t.length t.length) (t.map zar.name)/\Below w.heap.size w w':=by
 have HN:=zz6 lo w pb t h.table hl
 have hlt:pb < w.heap.size:=by obtain⟨_,v,pv,h1,_⟩:=h;exact h1.lt
 go_enter Tryz.func86,Tryz.ntmps86
 go_wp2_with (first|(go_at_call 132;refine HN.mono ?_;rintro e w1 ⟨g,hg,rfl,hs1,hb1⟩))
 go_ret
 exact⟨g,hg,rfl,hs1,hb1⟩
theorem z7q(w:World)(pb:Nat)(cs:List zab)(t:List zar)(h:zkr lo w pb cs t) :
  Calls Tryz.prog 48 #[.pointer (some ⟨pb,0,none⟩)] w fun e w'=>e=.returned (.int .i64 cs.length)/\w'=w:=by
 obtain⟨_,v,pv,h1,h2,_⟩:=h
 obtain⟨ao,cap,rfl⟩:=h2.shape
 obtain⟨hc,hf⟩:=h1.rules
 have hlt:=h1.lt
 go_enter Tryz.func48,Tryz.ntmps48
 go_wp2
 go_ret
 exact⟨rfl,rfl⟩
end Go.Proofs.YteampbddflhngaaGreat
namespace Go.Proofs.YteampbddflhngaaGreat
set_option maxRecDepth 100000
set_option maxHeartbeats 2000000
open Go.RowKit
variable {lo:Nat}
variable {w:World}{base g n cap m:Nat}{ys:List (Value × Value × Value)}{xs:List Value}{ls:List zbu}{gs:List Nat}
theorem z8h(w:World)(l:zbu)(va:Value)(hs:SIn lo w va l.args)(hl:l.args.length<=1000) :
  Calls Tryz.prog 133 #[.agg #[.bool l.neg,.string l.pred,va]] w fun e w'=>∃ g,w.heap.size<=g/\e=.returned (.agg #[.bool l.neg,.string l.pred,.slice (some ⟨g,0,none⟩) l.args.length l.args.length])/\SIn w.heap.size w' (.slice (some ⟨g,0,none⟩) l.args.length l.args.length) l.args/\Below w.heap.size w w':=by
 obtain⟨ao,cap,rfl⟩:=hs.shape
 have HC:Hid (∀ W,Below w.heap.size w W->Calls Tryz.prog 170 #[.slice ao l.args.length cap] W fun e w'=>∃ g,W.heap.size<=g/\e=.returned (.slice (some ⟨g,0,none⟩) l.args.length l.args.length)/\SIn W.heap.size w' (.slice (some ⟨g,0,none⟩) l.args.length l.args.length) l.args/\Below W.heap.size W w'):=fun W hW=>zn0 W _ l.args (hs.below hW) hl
 clear hs
 go_enter Tryz.func133,Tryz.ntmps133
 go_wp2
 generalize hW0:(w.alloc (.cells #[.bool l.neg,.string l.pred,.slice ao l.args.length cap] 90)).alloc (.cells #[.bool false,.string { data:=#[] },.slice none 0 0] 90)=w0
 have hA:Box w0 w.heap.size #[.bool l.neg,.string l.pred,.slice ao l.args.length cap] 90:=by rw[← hW0];exact(Box.new w _ _).below ((Below.refl _ _).alloc (uaa _) _)
 have hR:Box w0 (w.heap.size+1) #[.bool false,.string { data:=#[] },.slice none 0 0] 90:=by rw[← hW0];exact Box.newAt _ _ _ _ (by simp)
 have hB0:Below w.heap.size w w0:=by rw[← hW0];exact(by go_grown)
 clear hW0
 obtain⟨hAc,hAf⟩:=hA.rules
 obtain⟨hRc,hRf⟩:=hR.rules
 have hAl:=hA.lt
 have hRl:=hR.lt
 go_region_with (go_at_call 170;refine(HC.out _ (by exact zau hB0 1)).mono ?_;rintro e w1 ⟨g,hg,rfl,hs1,hb1⟩;have hA1:=(Box.drew hA).below hb1;have hR1:=(Box.drew hR).below hb1;obtain⟨hA1c,hA1f⟩:=hA1.rules;obtain⟨hR1c,hR1f⟩:=hR1.rules;have hA1l:=hA1.lt;have hR1l:=hR1.lt)
 all_goals
  go_wp2
  have hz1:=hb1.size
  have hB1:Below w.heap.size w w1:=zae (zau hB0 1) hb1 (uaa _)
  have hg1:w0.heap.size<=g:=hg
  have hz0:=hB0.size
  exact bodyPost_ret (v:=.agg #[.bool l.neg,.string l.pred,.slice (some ⟨g,0,none⟩) l.args.length l.args.length]) (by simp[results,Tryz.results133,go_sem,hR1c]) rfl ⟨g,by omega,rfl,(hs1.low (show w.heap.size<=w0.heap.size from hz0)).but (r:=w.heap.size+1) ((((But.refl _ _).setCell _ _).setCell _ _).setCell _ _) hR1 (by decide),(((hB1.setCell (by simp) _).setCell (by simp) _).setCell (by simp) _)⟩
def zzt(t:Value × Value × Value):List Value:=[t.1,t.2.1,t.2.2]
def flat3(ys:List (Value × Value × Value)):List Value:=ys.flatMap zzt
theorem zix(ys:List (Value × Value × Value)):(flat3 ys).length=ys.length * 3:=by
 induction ys with
 |nil=>rfl
 |cons a l ih=>simp[flat3,zzt] at ih ⊢;omega
theorem zn6:∀(ys:List (Value × Value × Value)) (k:Nat) (_:k < ys.length) (a b c:Value),(((flat3 ys).set (k * 3) a).set (k * 3+1) b).set (k * 3+2) c=flat3 (ys.set k (a,b,c))
 |[],k,hk,_,_,_=>by simp at hk
 |y::r,0,_,a,b,c=>by simp[flat3,zzt]
 |y::r,k+1,hk,a,b,c=>by
  have:=zn6 r k (by simpa using hk) a b c
  simp only[flat3,ua5,uc9,zzt] at this ⊢
  rw[show(k+1) * 3=k * 3+1+1+1 from by omega,show k * 3+1+1+1+1=k * 3+1+1+1+1 from rfl,show k * 3+1+1+1+2=k * 3+2+1+1+1 from by omega]
  simpa using this
theorem zm9:∀(ys:List (Value × Value × Value)) (k:Nat) (hk:k < ys.length),(flat3 ys)[k * 3]?=some ys[k].1/\(flat3 ys)[k * 3+1]?=some ys[k].2.1/\(flat3 ys)[k * 3+2]?=some ys[k].2.2
 |[],k,hk=>by simp at hk
 |y::r,0,_=>by simp[flat3,zzt]
 |y::r,k+1,hk=>by
  have:=zm9 r k (by simpa using hk)
  simp only[flat3,ua5,zzt] at this ⊢
  rw[show(k+1) * 3=k * 3+1+1+1 from by omega,show k * 3+1+1+1+1=k * 3+1+1+1+1 from rfl,show k * 3+1+1+1+2=k * 3+2+1+1+1 from by omega]
  simpa using this
theorem z6d(z0 z1 z2:Value):∀(n i:Nat),i < n * 3->(madeCells #[z0,z1,z2] (n * 3))[i]?=(flat3 (List.replicate n (z0,z1,z2)))[i]?:=by
 intro n i hi
 obtain⟨k,j,hj,rfl⟩:∃ k j,j < 3/\i=k * 3+j:=⟨i / 3,i % 3,Nat.mod_lt _ (by decide),by omega⟩
 have hk:k < n:=by omega
 obtain⟨h0,h1,h2⟩:=zm9 (List.replicate n (z0,z1,z2)) k (by simpa using hk)
 simp only[uc8] at h0 h1 h2
 have hm:(k * 3+j) % 3=j:=by omega
 simp only[madeCells,Array.getElem?_map,Array.getElem?_range]
 rw[if_pos hi]
 simp only[ubp]
 have h3:(#[z0,z1,z2]:Array Value).size=3:=rfl
 rw[h3,hm]
 match j,hj with
 |0,_=>rw[Nat.add_zero,h0];rfl
 |1,_=>rw[h1];rfl
 |2,_=>rw[h2];rfl
theorem z3k(w:World)(n:Nat)(T:TypeId)(z0 z1 z2:Value)(hn:n<=maxLen):(w.alloc (.cells (madeCells #[z0,z1,z2] (n * 3)) T)).ownsRow w.heap.size T 3 (.slice (some ⟨w.heap.size,0,none⟩) n n) n (flat3 (List.replicate n (z0,z1,z2))):=by
 refine⟨by rw[zix];simp,Or.inr ⟨w.heap.size,n,madeCells #[z0,z1,z2] (n * 3),rfl,uaa _,?_,uaa _,hn,by rw[size_madeCells],?_⟩⟩
 ·show(w.heap.push _)[w.heap.size]?=_
  simp
 ·apply uce
  intro i
  by_cases hi:i < n * 3
  ·rw[ubq,if_pos hi,Array.getElem?_toList,z6d _ _ _ n i hi]
  ·rw[ubq,if_neg hi,uav (by rw[zix];simp;omega)]
theorem z6n{e:TypeId}(h:w.ownsRow base e 3 (.slice (some ⟨g,0,none⟩) n cap) m (flat3 ys))(k:Nat)(hk:k < ys.length)(a b c:Value) :
  (((w.setCell ⟨g,k * 3,none⟩ a).setCell ⟨g,k * 3+1,none⟩ b).setCell ⟨g,k * 3+2,none⟩ c).ownsRow base e 3 (.slice (some ⟨g,0,none⟩) n cap) m (flat3 (ys.set k (a,b,c))):=by
 have hl:=zix ys
 have h1:=zb4 h (k * 3) (by omega) a
 have h2:=zb4 h1 (k * 3+1) (by simp;omega) b
 have h3:=zb4 h2 (k * 3+2) (by simp;omega) c
 rw[zn6 ys k hk] at h3
 exact h3
theorem zop{e:TypeId}(h:w.ownsRow base e 3 (.slice (some ⟨g,0,none⟩) n cap) m (flat3 ys))(k:Nat)(hk:k < ys.length) :
  g < w.heap.size/\w.cell? ⟨g,k * 3,none⟩=some ys[k].1/\w.cell? ⟨g,k * 3+1,none⟩=some ys[k].2.1/\w.cell? ⟨g,k * 3+2,none⟩=some ys[k].2.2:=by
 have hm:0 < m:=by have:=h.1;rw[zix] at this;omega
 obtain⟨g',cap',hv,_,hg,hc⟩:=zal h hm
 simp at hv
 obtain⟨rfl,_⟩:=hv
 obtain⟨h0,h1,h2⟩:=zm9 ys k hk
 exact⟨hg,hc _ _ h0,hc _ _ h1,hc _ _ h2⟩
theorem zoo{e:TypeId}{size:Nat}(h:w.ownsRow base e size (.slice (some ⟨g,0,none⟩) n cap) m xs):∃ cur,w.heap[g]?=some (.cells cur e (0,0)):=by
 obtain⟨_,⟨hv,_⟩|⟨g',cap',cur,hv,_,hh,_⟩⟩:=h
 ·cases hv
 ·simp at hv;obtain⟨rfl,_⟩:=hv;exact⟨cur,hh⟩
def z9r(l:zbu)(g:Nat):Value × Value × Value:=(.bool l.neg,.string l.pred,.slice (some ⟨g,0,none⟩) l.args.length l.args.length)
def Copies(lo:Nat)(w:World)(ls:List zbu)(gs:List Nat):Prop:=gs.length=ls.length/\gs.Pairwise (· < ·)/\∀ k (h1:k < ls.length) (h2:k < gs.length),lo<=gs[k]/\SIn lo w (.slice (some ⟨gs[k],0,none⟩) ls[k].args.length ls[k].args.length) ls[k].args
theorem Copies.nil(w:World):Copies lo w [] []:=⟨rfl,List.Pairwise.nil,fun k h1=>by simp at h1⟩
theorem Copies.mono{w':World}(h:Copies lo w ls gs)(hm:∀ v l,SIn lo w v l->SIn lo w' v l):Copies lo w' ls gs:=⟨h.1,h.2.1,fun k h1 h2=>⟨(h.2.2 k h1 h2).1,hm _ _ (h.2.2 k h1 h2).2⟩⟩
theorem Copies.lt(h:Copies lo w ls gs):∀ g∈gs,g < w.heap.size:=by
 intro g hg
 obtain⟨k,hk,rfl⟩:=uau hg
 obtain⟨cur,hh⟩:=zoo (h.2.2 k (by have:=h.1;omega) hk).2
 exact(uaz.1 hh).1
theorem Copies.snoc{l:zbu}(h:Copies lo w ls gs)(hlt:∀ x∈gs,x < g)(hg:lo<=g)(hs:SIn lo w (.slice (some ⟨g,0,none⟩) l.args.length l.args.length) l.args):Copies lo w (ls++[l]) (gs++[g]):=by
 obtain⟨h1,h2,h3⟩:=h
 refine⟨by simp[h1],?_,?_⟩
 ·rw[uc0]
  exact⟨h2,List.pairwise_singleton _ _,fun a ha b hb=>by simp at hb;subst hb;exact hlt a ha⟩
 ·intro k hk1 hk2
  simp at hk1
  by_cases hk:k < ls.length
  ·have:=h3 k hk (by omega)
   simpa [List.getElem_append,hk,h1] using this
  ·obtain rfl:k=ls.length:=by omega
   have e1:(ls++[l])[ls.length]=l:=by simp
   have e2:(gs++[g])[ls.length]=g:=by simp[← h1]
   rw[e1,e2]
   exact⟨hg,hs⟩
theorem z9w(h:gs.length=ls.length)(l:zbu)(g m:Nat)(z:Value × Value × Value):(List.zipWith z9r ls gs++List.replicate (m+1) z).set ls.length (z9r l g)=List.zipWith z9r (ls++[l]) (gs++[g])++List.replicate m z:=by
 have hz:(List.zipWith z9r ls gs).length=ls.length:=by simp[h]
 rw[ubd _ _ (by omega),hz,ubs,ucv h.symm,uba]
 rfl
theorem SIn.sets{v:Value}{l:List ByteArray}(h:SIn lo w v l)(hr:w.ownsRow base 90 3 (.slice (some ⟨g,0,none⟩) n cap) m xs)(i j k:Nat)(a b c:Value):SIn lo (((w.setCell ⟨g,i,none⟩ a).setCell ⟨g,j,none⟩ b).setCell ⟨g,k,none⟩ c) v l:=by
 obtain⟨cur,hh⟩:=zoo hr
 exact h.but ((((But.refl g w).setCell _ _).setCell _ _).setCell _ _) hh (by decide)
end Go.Proofs.YteampbddflhngaaGreat
namespace Go.Proofs.YteampbddflhngaaGreat
open Go.RowKit
variable {lo:Nat}
variable {M:List Nat}{w w':World}{b base n:Nat}{c:Array Value}{v:Value}{xs xs1:List Value}
structure zas (M:List Nat) (w w':World):Prop where
 os:w'.os=w.os
 tape:w'.tape=w.tape
 output:w'.output=w.output
 size:w.heap.size<=w'.heap.size
 block:∀ k,k < w.heap.size->k∉M->w'.heap[k]?=w.heap[k]?
theorem zas.refl(M:List Nat)(w:World):zas M w w:=⟨rfl,rfl,rfl,uaa _,fun _ _ _=>rfl⟩
theorem zas.of(h:Below w.heap.size w w'):zas M w w':=⟨h.os,h.tape,h.output,h.size,fun k hk _=>h.block k hk⟩
theorem zas.trans{M:List Nat}{a b c:World}(h:zas M a b)(k:zas M b c):zas M a c :=
 ⟨k.os.trans h.os,k.tape.trans h.tape,k.output.trans h.output,uap h.size k.size,fun x hx hn=>(k.block x (ual hx h.size) hn).trans (h.block x hx hn)⟩
theorem zas.more{N:List Nat}(h:zas M w w')(hs:∀ x∈M,x∈N):zas N w w':=⟨h.os,h.tape,h.output,h.size,fun k hk hn=>h.block k hk fun hm=>hn (hs k hm)⟩
theorem zas.newer{N:List Nat}{a b c:World}(h:zas M a b)(k:zas N b c)(hn:∀ x∈N,x∈M∨a.heap.size<=x):zas M a c :=
 ⟨k.os.trans h.os,k.tape.trans h.tape,k.output.trans h.output,uap h.size k.size,fun x hx hm=>(k.block x (ual hx h.size) fun hxn=>(hn x hxn).elim hm fun h2=>by omega).trans (h.block x hx hm)⟩
theorem zas.below{B:Nat}(h:zas M w w')(hM:∀ x∈M,B<=x)(hB:B<=w.heap.size):Below B w w' :=
 ⟨h.os,h.tape,h.output,h.size,fun k hk=>h.block k (by omega) fun hm=>by have:=hM k hm;omega⟩
theorem zbl{e:TypeId}{size:Nat}(h:w.ownsRow base e size v n xs)(hs:zas M w w')(hn:∀ b,v.ownBlock=some b->b∉M):w'.ownsRow base e size v n xs:=by
 obtain⟨h1,h2⟩:=h
 refine⟨h1,?_⟩
 rcases h2 with h2|⟨g,cap,cur,hv,hg,hh,rr⟩
 ·exact Or.inl h2
 ·refine Or.inr ⟨g,cap,cur,hv,hg,?_,rr⟩
  rw[hs.block g (uaz.1 hh).1 (hn g (by rw[hv];rfl))];exact hh
theorem Box.save{T:TypeId}(h:Box w b c T)(hs:zas M w w')(hn:b∉M):Box w' b c T:=by
 have:=h.lt;unfold Box at *;rw[hs.block b this hn];exact h
section
variable {P:Program} {ops:Array Oper} {rest:List Oper} {o:Oper} {a:Act} {Q:Exit->Act->World->Prop}
theorem zce(wO w0:World)(l:List Value)(te:TypeId)(hg:o.guard=none)(s x:Operand)(t:TypeId)
  (ho:o.op=.call { callee:=.builtin .append,args:=#[s,x],argTypes:=#[t,t] })
  (base:Nat) (e:TypeId) (i:TypeInfo) (z:Value) (size bytes:Nat) (ht:P.underlying t=some (.slice e)) (hi:P.info? e=some i) (hz:i.zero=some z)
  (hsize:i.size=size) (hby:i.bytes=bytes) (hzs:z.cells.size=size) (hsz:0 < size)
  (v:Value) (n:Nat) (xs:List Value) (hs:a.eval s=v) (hown:wO.ownsRow base e size v n xs) (hbO:Below wO.heap.size wO w0)
  (b c:Nat) (hx:a.eval x=.slice (some ⟨b,0,none⟩) 1 c) (hb:b=w0.heap.size) (hl:l.length=size) (h1:∀ u∈l,u.oneCell'=true)
  (hn:n<=10000000000) (hbytes:bytes<=1000) (hbase:base<=wO.heap.size)
  (h:∀ v' w',w'.ownsRow base e size v' (n+1) (xs++l)->zas v.ownBlock.toList wO w'->(v'.ownBlock=v.ownBlock∨∃ g,v'.ownBlock=some g/\wO.heap.size<=g)->wpList P ops Q rest (a.put o.dst v') w') :
  wpList P ops Q (o::rest) a (w0.alloc (.cells l.toArray te)):=by
 have hown':=zaa hown hbO
 have hsz0:=hbO.size
 subst hb
 refine wpList_append_own_at _ hg s x t ho base e i z size bytes ht hi hz hsize hby hzs hsz v n xs hs (hown'.alloc _) ⟨w0.heap.size,0,none⟩ 1 c l hx (by omega) ?_ h1 ?_ ?_ ?_ ?_
 ·intro j u hj
  rw[Addr.add_lit,ubl,World.cell?_alloc_mark]
  simpa using hj
 ·unfold maxLen;omega
 ·have:(n+1) * bytes<=10000000001 * 1000:=Nat.mul_le_mul (by omega) hbytes
  omega
 ·simp;omega
 ·intro v' w' h2 hgr _ hat
  refine h v' w' h2 ⟨hgr.os.trans hbO.os,hgr.tape.trans hbO.tape,hgr.output.trans hbO.output,?_,fun k hk hm=>?_⟩ ?_
  ·have:=hgr.size;simp at this;omega
  ·rw[hgr.block k (by simp;omega) (fun e=>hm (by rw[← e];simp))]
   rw[show(w0.alloc (.cells l.toArray te)).heap[k]?=w0.heap[k]? from Below.heap_alloc _ _ _ (by omega)]
   exact hbO.block k hk
  ·rcases hat with h3|h3
   ·exact Or.inl h3
   ·exact Or.inr ⟨_,h3,by simp;omega⟩
end
theorem zdq{e:TypeId}{size:Nat}(h:w.ownsRow base e size v n xs)(hb:v.ownBlock=some b):b < w.heap.size:=by
 obtain⟨_,⟨hv,_⟩|⟨g,cap,cur,hv,_,hh,_⟩⟩:=h
 ·subst hv;cases hb
 ·subst hv;simp only[Value.ownBlock,uab] at hb;subst hb;exact(uaz.1 hh).1
theorem zas.set(w:World)(b o:Nat)(u:Value):zas [b] w (w.setCell ⟨b,o,none⟩ u) :=
 ⟨rfl,rfl,rfl,by simp[World.setCell],fun k _ hn=>Below.heap_setCell _ _ _ _ (by simp at hn;exact hn)⟩
theorem zcy(h:b∈v.ownBlock.toList):v.ownBlock=some b:=by simpa using h
theorem zdu{e T:TypeId}{size:Nat}(h:w.ownsRow base e size v n xs)(hb:Box w b c T)(hT:e≠T):b∉v.ownBlock.toList:=by
 intro hm
 have:=zfx h hb hT
 exact this (by simpa [eq_comm] using hm)
def sl(g n:Nat):Value:=.slice (some ⟨g,0,none⟩) n n
theorem zjf{b1 b2:Nat}{e1 e2:TypeId}{s1 s2:Nat}{v1 v2:Value}{n1 n2:Nat}{xs2:List Value}(h1:w.ownsRow b1 e1 s1 v1 n1 xs1)(h2:w.ownsRow b2 e2 s2 v2 n2 xs2)(hT:e1≠e2)(hb:v1.ownBlock=some b):v2.ownBlock≠some b:=by
 intro hb2
 obtain⟨_,⟨hv,_⟩|⟨g,cap,cur,hv,_,hh,_⟩⟩:=h1
 ·subst hv;cases hb
 ·obtain⟨_,⟨hv2,_⟩|⟨g2,cap2,cur2,hv2,_,hh2,_⟩⟩:=h2
  ·subst hv2;cases hb2
  ·subst hv;subst hv2
   simp only[Value.ownBlock,uab] at hb hb2
   subst hb;subst hb2
   rw[hh] at hh2
   simp at hh2
   exact hT hh2.2
theorem zbr{b1:Nat}{e T:TypeId}{s1:Nat}{v1:Value}{n1:Nat}(h1:w.ownsRow b1 e s1 v1 n1 xs1){wb:Nat}(h2:Box w wb c T)(hT:e≠T)(hb:v1.ownBlock=some b):b≠wb:=by
 rintro rfl
 exact zfx h1 h2 hT hb.symm
theorem zeg{e:TypeId}{size:Nat}(h:w.ownsRow base e size v n xs)(hb:v.ownBlock=some b):base<=b:=by
 obtain⟨_,⟨hv,_⟩|⟨g,cap,cur,hv,hg,_,_⟩⟩:=h
 ·subst hv;cases hb
 ·subst hv;simp only[Value.ownBlock,uab] at hb;omega
theorem z6i{α:Type}{f:α->Nat}{l:List α}(h:(l.map f).Nodup){i j:Nat}(hi:i < l.length)(hj:j < l.length)(hne:i≠j):f l[i]≠f l[j]:=by
 intro e
 have:=(List.getElem_inj (h₀:=by simpa using hi) (h₁:=by simpa using hj) h).1 (by simpa using e)
 exact hne this
theorem Tryz.infoInt:(Tryz.prog.info? 3).map (fun i=>(i.zero,i.size,i.bytes))=some (some (.int .i64 0),1,8):=by kernel_rfl
def ivN(s:Nat):Value:=.int .i64 (s:Int)
theorem z6m(w:World)(n:Nat)(T:TypeId)(hn:n<=maxLen):(w.alloc (.cells (madeCells #[.int .i64 0] n) T)).ownsRow w.heap.size T 1 (.slice (some ⟨w.heap.size,0,none⟩) n n) n ((List.replicate n 0).map ivN):=by
 refine⟨by simp,Or.inr ⟨w.heap.size,n,madeCells #[.int .i64 0] n,rfl,uaa _,?_,uaa _,hn,by rw[size_madeCells];omega,?_⟩⟩
 ·show(w.heap.push _)[w.heap.size]?=_
  simp
 ·apply uce
  intro i
  by_cases hi:i < n
  ·simp[hi,madeCells,ivN,Nat.mod_one]
  ·simp[List.getElem?_take,hi]
end Go.Proofs.YteampbddflhngaaGreat
namespace Go.Proofs.YteampbddflhngaaGreat
structure zhi where
 leap:List Nat
 down:List Nat
 deriving DecidableEq
structure zad where
 qg:Nat
 qp:Nat
 ql:List zhi
 count:Nat
 deriving DecidableEq
abbrev zao:=List Nat
def zhi.zero:zhi:=⟨[],[]⟩
def zb8(T:zad):zad:={ T with ql:=T.ql++[⟨List.replicate T.qg T.qg,List.replicate T.qg 0⟩] }
def za4(qg:Nat):Nat:=if qg < 1 then 1 else qg
def zby(qp:Nat):Nat:=if (if qp < 1 then 1 else qp) > 3 then 3 else(if qp < 1 then 1 else qp)
def zfv(qg qp:Nat):zad:=zb8 ⟨za4 qg,zby qp,[],0⟩
def zcn(T:zad)(at' «from» : Nat):Option Nat :=
 if at' < T.ql.length/\«from» < T.qg then
  let v:=(T.ql.getD at' zhi.zero).leap.getD «from» 0
  if v ≥ T.qg then none else some v
 else none
def zax(T:zad)(at' v:Nat):Option Nat :=
 match zcn T at' v with
 |none=>none
 |some u=>if u=v then some ((T.ql.getD at' zhi.zero).down.getD v 0) else none
def zgh(v:Nat):Nat->List Nat->List Nat
 |0,l=>l
 |n+1,l=>if l.getD n 0 > v then zgh v n (l.set n v) else l
def z4v(n:zhi)(v d:Nat):zhi:=⟨zgh v (v+1) n.leap,n.down.set v d⟩
def ze6(T:zad)(at' v d:Nat):zad :=
 if at' < T.ql.length/\v < T.qg then{ T with ql:=T.ql.set at' (z4v (T.ql.getD at' zhi.zero) v d) } else T
def zcq(T:zad)(at' v:Nat):zad × Nat :=
 match zax T at' v with
 |some b=>(T,b)
 |none=>(ze6 (zb8 T) at' v T.ql.length,T.ql.length)
def zp3(T:zad)(at' v mark:Nat):zad × Bool :=
 match zax T at' v with
 |some _=>(T,false)
 |none=>({ ze6 T at' v mark with count:=(ze6 T at' v mark).count+1 },true)
def zn5(T:zad)(row:zao):Bool:=row.all (fun v=>v < T.qg)
def zc7(mark:Nat):zad->Nat->Nat->zao->zad × Bool
 |T,_,_,[]=>(T,false)
 |T,at',level,v::r =>
  if level+1 ≥ T.qp then zp3 T at' v mark else zc7 mark (zcq T at' v).1 (zcq T at' v).2 (level+1) r
def zfo(T:zad)(row:zao)(mark:Nat):zad × Bool:=if zn5 T row then zc7 mark T 0 0 row else(T,false)
def zbe(T:zad):Nat->Nat->zao->Option Nat
 |_,_,[]=>none
 |at',level,v::r =>
  match zax T at' v with
  |none=>none
  |some b=>if level+1 ≥ T.qp then some b else zbe T b (level+1) r
def zdt(T:zad)(row:zao):Option Nat:=zbe T 0 0 row
def zdh(T:zad):Nat->Nat->Nat->Nat->zao->List zao->Option (zao × List zao)
 |0,_,_,_,_,_=>none
 |n+1,at',level,«from»,row,rows =>
  match zcn T at' «from» with
  |none=>some (row,rows)
  |some v =>
   let row:=row.set level v
   if level+1 ≥ T.qp then zdh T n at' level (v+1) row (rows++[row])
   else if level+1 ≥ 3 then zdh T n at' level (v+1) row rows
   else match zdh T n ((zax T at' v).getD 0) (level+1) 0 row rows with
    |none=>none
    |some (row,rows)=>zdh T n at' level (v+1) row rows
def zr3(fuel:Nat)(T:zad):Option (List zao):=(zdh T fuel 0 0 0 [0,0,0] []).map (·.2)
structure zbn where
 var:Bool
 num:Nat
 level:Nat
 deriving DecidableEq
structure zak where
 pred:Nat
 qf:List zbn
 deriving DecidableEq
structure zah where
 qi:Nat
 vars:Nat
 head:zak
 qc:List zak
 qm:List zak
 deriving DecidableEq
def zde(l:zak)(place:Nat):Bool:=l.qf.any fun t=>t.var && t.num == place
def zbq(l:zak)(place:Nat):Option Nat:=if zde l place then some ((List.range place).countP (zde l)) else none
def zbb(l:zak):Nat:=(List.range 5).countP (zde l)
def zdn(l:zak):Nat:=l.qf.foldl (fun k t=>if t.var && decide (t.num ≥ k) then t.num+1 else k) 0
def zij(l:zak)(jd:Int):Int:=l.qf.foldl (fun k t=>if t.var && decide ((t.num:Int) < jd) && decide ((t.num:Int) > k) then(t.num:Int) else k) (-1)
def zh0(l:zak)(jd:Int):Int:=if (zdn l:Int)<=jd then -1 else zij l jd
def zbc(jd:Int)(b:Int)(l:zak):Int:=if zh0 l jd > b then zh0 l jd else b
def zd7(r:zah)(jd:Int):Int:=r.qm.foldl (zbc jd) (r.qc.foldl (zbc jd) (zij r.head jd))
def atT(t:zbn)(vals:List Nat):Nat:=if t.var && decide (t.num < 5) then vals.getD t.num 0 else t.num
def rowCell(l:zak)(vals:List Nat)(i:Nat):Nat:=if i < l.qf.length then atT (l.qf.getD i ⟨false,0,0⟩) vals else 0
def zct(l:zak)(vals:List Nat):zao:=[rowCell l vals 0,rowCell l vals 1,rowCell l vals 2]
def leveled(t:zbn):Bool:=t.var && decide (t.level < 3)
def zbz(l:zak)(row:zao)(f:zao)(i:Nat):zao :=
 if i < l.qf.length/\leveled (l.qf.getD i ⟨false,0,0⟩)=true then f.set (l.qf.getD i ⟨false,0,0⟩).level (row.getD i 0) else f
def zc9(l:zak)(row:zao):zao:=zbz l row (zbz l row (zbz l row [0,0,0] 0) 1) 2
def zea(t:zbn)(v:Nat)(f:zao):Bool:=if leveled t then f.getD t.level 0 == v else t.num == v
def zaz(l:zak)(row f:zao)(i:Nat):Bool:=decide (l.qf.length<=i) || zea (l.qf.getD i ⟨false,0,0⟩) (row.getD i 0) f
def zb0(l:zak)(row:zao):Option zao :=
 if zaz l row (zc9 l row) 0 && zaz l row (zc9 l row) 1 && zaz l row (zc9 l row) 2 then some (zc9 l row) else none
structure zej where
 rows:zad
 ql:List Nat
 deriving DecidableEq
structure z9p where
 lit:zak
 jd:Nat
 rows:zad
 deriving DecidableEq
structure zav where
 head:zak
 vars:Nat
 qy:List zej
 bars:List z9p
 ja:List (List (Nat × Nat))
 jg:List Int
 last:Int
 qx:List Nat
 «from» : List Nat
 qp:Int
 /-- as the code counts them: an int of Go's -/
 jf:Int
 deriving DecidableEq
def zej.zero:zej:=⟨⟨0,0,[],0⟩,[]⟩
def zb2(r:zah)(place:Nat):List (Nat × Nat) :=
 r.qc.zipIdx.filterMap fun x=>(zbq x.1 place).map fun lv=>(x.2,lv)
def zb3(J:zav)(jd:Nat):Bool:=J.bars.any fun b=>b.jd == jd && (zdt b.rows (zct b.lit J.qx)).isSome
def za3(r:zah)(qc qm:List zad):zav :=
 let J:zav:={ head:=r.head,vars:=r.vars,qy:=qc.map (fun T=>⟨T,[0,0,0]⟩),bars:=(r.qm.zip qm).map (fun x=>⟨x.1,zdn x.1,x.2⟩),ja:=(List.range 5).map (zb2 r),jg:=(List.range 5).map (fun p=>zd7 r (p:Nat)),last:=zd7 r r.vars,qx:=[0,0,0,0,0],«from»:=[0,0,0,0,0],qp:=if qc.any (fun T=>T.count == 0) then -1 else 0,jf:=0 }
 if zb3 J 0 then{ J with qp:=-1 } else J
def zcr(J:zav)(h:Nat × Nat):Bool:=decide (h.1 < J.qy.length) && decide (h.2 < 3)
def zhj(J:zav)(h:Nat × Nat)(«from» : Nat):zav × Option Nat :=
 if zcr J h then({ J with jf:=IntKind.i64.wrap (J.jf+1) },zcn (J.qy.getD h.1 zej.zero).rows ((J.qy.getD h.1 zej.zero).ql.getD h.2 0) «from») else(J,none)
def zid:Nat->zav->List (Nat × Nat)->Nat->Nat->Nat->Option (zav × Option Nat)
 |0,_,_,_,_,_=>none
 |n+1,J,hs,at',same,turn =>
  if same < hs.length then
   match zhj J (hs.getD turn (0,0)) at' with
   |(J,none)=>some (J,none)
   |(J,some v)=>zid n J hs (if v > at' then v else at') ((if v > at' then 0 else same)+1) (if turn+1 ≥ hs.length then 0 else turn+1)
  else some (J,some at')
def zml(fuel:Nat)(J:zav)(place «from» : Nat):Option (zav × Option Nat) :=
 if place ≥ 5∨(J.ja.getD place []).length=0 then some (J,none) else zid fuel J (J.ja.getD place []) «from» 0 0
def zek(v:Nat)(J:zav)(h:Nat × Nat):zav :=
 if zcr J h=false∨h.2+1 ≥ 3 then J
 else{ J with qy:=J.qy.set h.1 { (J.qy.getD h.1 zej.zero) with ql:=(J.qy.getD h.1 zej.zero).ql.set (h.2+1) ((zax (J.qy.getD h.1 zej.zero).rows ((J.qy.getD h.1 zej.zero).ql.getD h.2 0) v).getD 0) } }
def zf0(J:zav)(place v:Nat):zav :=
 if place ≥ 5 then J
 else(J.ja.getD place []).foldl (zek v) { J with qx:=J.qx.set place v,«from»:=(if place+1 < 5 then(J.from.set place (v+1)).set (place+1) 0 else J.from.set place (v+1)) }
def ze9:Nat->zav->Int->Option (zav × Bool)
 |0,_,_=>none
 |n+1,J,qp =>
  if 0<=qp/\qp < J.vars/\qp < 5 then
   match zml n J qp.toNat (J.from.getD qp.toNat 0) with
   |none=>none
   |some (J,none)=>ze9 n J (J.jg.getD qp.toNat 0)
   |some (J,some v)=>ze9 n (zf0 J qp.toNat v) (if zb3 (zf0 J qp.toNat v) (qp.toNat+1) then qp else qp+1)
  else some (J,decide (qp ≥ J.vars))
def zt9(fuel:Nat)(J:zav):Option (zav × Bool) :=
 match ze9 fuel J J.qp with
 |none=>none
 |some (J,found)=>some ({ J with qp:=if found then J.last else -1 },found)
end Go.Proofs.YteampbddflhngaaGreat
