/- Fields, groups, instructions, functions and programs: how they lie in memory (what has no copy of a law, cut out of GenBase, GenIns, GenFun, GenProg). -/
import Derived.Test.YtpaneomkphjpcaaGreatDoorPaOne
import Derived.Handy
namespace Go.Proofs.YtpaneomkphjpcaaGreatDoor
open Go.ChangeShapes Go.WideShapes Go.ChangeAt Go.RowKit Go.Joins Go.Deep
set_option linter.unusedVariables false
def FieldsM (md:Bool) (w:World) (lo hi:Nat) (a:Option Addr) (fs:List Fd):Prop:=FieldsIn w lo hi a fs∧(md=true→FSh w lo hi a fs.length)
theorem FieldsM.same {md:Bool} {lo hi lo' hi':Nat} {w w':World} {a:Option Addr} {fs:List Fd} (h:FieldsM md w lo hi a fs) (hs:Same lo hi w w') (h1:lo'≤lo) (h2:hi≤hi'):FieldsM md w' lo' hi' a fs :=
 ⟨h.1.same hs h1 h2,fun e=>(h.2 e).same hs h1 h2⟩
theorem FieldsM.plain {md:Bool} {lo hi:Nat} {w:World} {a:Option Addr} {fs:List Fd} (h:FieldsM md w lo hi a fs):FieldsM false w lo hi a fs:=⟨h.1,fun e=>by cases e⟩
theorem FieldsM.keep {md:Bool} {lo hi:Nat} {w w':World} {a:Option Addr} {fs:List Fd} (h:FieldsM md w lo hi a fs) (hb:Below hi w w'):FieldsM md w' lo hi a fs:=h.same (.of_below hb (Nat.le_refl _)) (Nat.le_refl _) (Nat.le_refl _)
theorem FieldsM.wide {md:Bool} {lo hi lo' hi':Nat} {w:World} {a:Option Addr} {fs:List Fd} (h:FieldsM md w lo hi a fs) (h1:lo'≤lo) (h2:hi≤hi'):FieldsM md w lo' hi' a fs:=h.same (Same.refl _ _ _) h1 h2
def FieldsB (N:Nat) (fs:List Fd):Prop:=fs.length≤N
def GroupsM (md:Bool) (w:World) (lo hi:Nat) (a:Option Addr) (gs:List (List Ty)):Prop:=GroupsIn w lo hi a gs∧(md=true→GroupsNew w lo hi a gs)
theorem GroupsM.same {md:Bool} {lo hi lo' hi':Nat} {w w':World} {a:Option Addr} {gs:List (List Ty)} (h:GroupsM md w lo hi a gs) (hs:Same lo hi w w') (h1:lo'≤lo) (h2:hi≤hi'):GroupsM md w' lo' hi' a gs :=
 ⟨h.1.same hs h1 h2,fun e=>(h.2 e).same hs h1 h2⟩
theorem GroupsM.plain {md:Bool} {lo hi:Nat} {w:World} {a:Option Addr} {gs:List (List Ty)} (h:GroupsM md w lo hi a gs):GroupsM false w lo hi a gs:=⟨h.1,fun e=>by cases e⟩
theorem GroupsM.keep {md:Bool} {lo hi:Nat} {w w':World} {a:Option Addr} {gs:List (List Ty)} (h:GroupsM md w lo hi a gs) (hb:Below hi w w'):GroupsM md w' lo hi a gs:=h.same (.of_below hb (Nat.le_refl _)) (Nat.le_refl _) (Nat.le_refl _)
theorem GroupsM.wide {md:Bool} {lo hi lo' hi':Nat} {w:World} {a:Option Addr} {gs:List (List Ty)} (h:GroupsM md w lo hi a gs) (h1:lo'≤lo) (h2:hi≤hi'):GroupsM md w lo' hi' a gs:=h.same (Same.refl _ _ _) h1 h2
def GroupsB (N:Nat) (gs:List (List Ty)):Prop:=gs.length≤N∧∀i,i<gs.length→(grAt gs i).length≤N∧∀j,j<(grAt gs i).length→(tyAt (grAt gs i) j).fields.length≤N
structure GIns where
 op:Int
 a:Int
 b:Int
def GIns.d:GIns:=⟨0,0,0⟩
def InsAt (md:Bool) (w:World) (lo hi b o:Nat) (x:GIns):Prop :=
 w.cell? ⟨b,o,none⟩=some (.int .i64 x.op)∧w.cell? ⟨b,o+1,none⟩=some (.int .i64 x.a)∧w.cell? ⟨b,o+2,none⟩=some (.int .i64 x.b)
theorem InsAt.same {md:Bool} {lo hi lo' hi' b o:Nat} {w w':World} {x:GIns} (h:InsAt md w lo hi b o x) (hs:Same lo hi w w') (h1:lo'≤lo) (h2:hi≤hi') (h3:lo≤b) (h4:b<hi):InsAt md w' lo' hi' b o x:=by
 obtain⟨e0,e1,e2⟩:=h
 exact⟨(hs.cell h3 h4).trans e0,(hs.cell h3 h4).trans e1,(hs.cell h3 h4).trans e2⟩
theorem InsAt.plain {md:Bool} {lo hi b o:Nat} {w:World} {x:GIns} (h:InsAt md w lo hi b o x):InsAt false w lo hi b o x:=by
 obtain⟨e0,e1,e2⟩:=h
 exact⟨e0,e1,e2⟩
def InsB (N:Nat) (x:GIns):Prop:=True
def insAt' (l:List GIns) (i:Nat):GIns:=l.getD i GIns.d
def InssM (md:Bool) (w:World) (lo hi:Nat) (a:Option Addr) (xs:List GIns):Prop :=
 xs=[]∨∃b off,a=some ⟨b,off,none⟩∧lo≤b∧b<hi∧(md=true→off=0∧∃m,Own w b m 40∧xs.length*3≤m)∧∀i,i<xs.length→InsAt md w lo hi b (off+i*3) (insAt' xs i)
theorem InssM.same {md:Bool} {lo hi lo' hi':Nat} {w w':World} {a:Option Addr} {xs:List GIns} (h:InssM md w lo hi a xs) (hs:Same lo hi w w') (h1:lo'≤lo) (h2:hi≤hi'):InssM md w' lo' hi' a xs:=by
 rcases h with rfl|⟨b,off,rfl,h3,h4,h5,h6⟩
 ·exact .inl rfl
 ·exact .inr ⟨b,off,rfl,by omega,by omega,fun e=>⟨(h5 e).1,(h5 e).2.imp fun m hm=>⟨hm.1.of_block (hs b h3 h4),hm.2⟩⟩,fun i hi=>(h6 i hi).same hs h1 h2 h3 h4⟩
theorem InssM.plain {md:Bool} {lo hi:Nat} {w:World} {a:Option Addr} {xs:List GIns} (h:InssM md w lo hi a xs):InssM false w lo hi a xs:=by
 rcases h with rfl|⟨b,off,rfl,h3,h4,h5,h6⟩
 ·exact .inl rfl
 ·exact .inr ⟨b,off,rfl,h3,h4,fun e=>(by cases e),fun i hi=>(h6 i hi).plain⟩
theorem InssM.keep {md:Bool} {lo hi:Nat} {w w':World} {a:Option Addr} {xs:List GIns} (h:InssM md w lo hi a xs) (hb:Below hi w w'):InssM md w' lo hi a xs:=h.same (.of_below hb (Nat.le_refl _)) (Nat.le_refl _) (Nat.le_refl _)
theorem InssM.wide {md:Bool} {lo hi lo' hi':Nat} {w:World} {a:Option Addr} {xs:List GIns} (h:InssM md w lo hi a xs) (h1:lo'≤lo) (h2:hi≤hi'):InssM md w lo' hi' a xs:=h.same (Same.refl _ _ _) h1 h2
def InssB (N:Nat) (xs:List GIns):Prop:=xs.length≤N
theorem Tryz.infoIns:(Tryz.prog.info? 40).map (fun i=>(i.zero,i.size,i.bytes))=some (some (.agg #[.int .i64 0,.int .i64 0,.int .i64 0]),3,24):=by kernel_rfl
structure GFun where
 takes:List Fd
 gives:Fd
 own:List Fd
 body:List GIns
def GFun.d:GFun:=⟨[],⟨0,0,false⟩,[],[]⟩
def FunAt (md:Bool) (w:World) (lo hi b o:Nat) (x:GFun):Prop :=
 ∃a0 c0 a4 c4 a5 c5,w.cell? ⟨b,o,none⟩=some (.slice a0 x.takes.length c0)∧w.cell? ⟨b,o+1,none⟩=some (.int .i64 x.gives.kind)∧w.cell? ⟨b,o+2,none⟩=some (.int .i64 x.gives.of)∧w.cell? ⟨b,o+3,none⟩=some (.bool x.gives.mt)∧w.cell? ⟨b,o+4,none⟩=some (.slice a4 x.own.length c4)∧w.cell? ⟨b,o+5,none⟩=some (.slice a5 x.body.length c5)∧FieldsM md w lo hi a0 x.takes∧FieldsM md w lo hi a4 x.own∧InssM md w lo hi a5 x.body
theorem FunAt.same {md:Bool} {lo hi lo' hi' b o:Nat} {w w':World} {x:GFun} (h:FunAt md w lo hi b o x) (hs:Same lo hi w w') (h1:lo'≤lo) (h2:hi≤hi') (h3:lo≤b) (h4:b<hi):FunAt md w' lo' hi' b o x:=by
 obtain⟨a0,c0,a4,c4,a5,c5,e0,e1,e2,e3,e4,e5,l0,l4,l5⟩:=h
 exact⟨a0,c0,a4,c4,a5,c5,(hs.cell h3 h4).trans e0,(hs.cell h3 h4).trans e1,(hs.cell h3 h4).trans e2,(hs.cell h3 h4).trans e3,(hs.cell h3 h4).trans e4,(hs.cell h3 h4).trans e5,l0.same hs h1 h2,l4.same hs h1 h2,l5.same hs h1 h2⟩
theorem FunAt.plain {md:Bool} {lo hi b o:Nat} {w:World} {x:GFun} (h:FunAt md w lo hi b o x):FunAt false w lo hi b o x:=by
 obtain⟨a0,c0,a4,c4,a5,c5,e0,e1,e2,e3,e4,e5,l0,l4,l5⟩:=h
 exact⟨a0,c0,a4,c4,a5,c5,e0,e1,e2,e3,e4,e5,l0.plain,l4.plain,l5.plain⟩
def FunB (N:Nat) (x:GFun):Prop:=FieldsB N x.takes∧FieldsB N x.own∧InssB N x.body
def funAt' (l:List GFun) (i:Nat):GFun:=l.getD i GFun.d
def FunsM (md:Bool) (w:World) (lo hi:Nat) (a:Option Addr) (xs:List GFun):Prop :=
 xs=[]∨∃b off,a=some ⟨b,off,none⟩∧lo≤b∧b<hi∧(md=true→off=0∧∃m,Own w b m 92∧xs.length*6≤m)∧∀i,i<xs.length→FunAt md w lo hi b (off+i*6) (funAt' xs i)
theorem FunsM.same {md:Bool} {lo hi lo' hi':Nat} {w w':World} {a:Option Addr} {xs:List GFun} (h:FunsM md w lo hi a xs) (hs:Same lo hi w w') (h1:lo'≤lo) (h2:hi≤hi'):FunsM md w' lo' hi' a xs:=by
 rcases h with rfl|⟨b,off,rfl,h3,h4,h5,h6⟩
 ·exact .inl rfl
 ·exact .inr ⟨b,off,rfl,by omega,by omega,fun e=>⟨(h5 e).1,(h5 e).2.imp fun m hm=>⟨hm.1.of_block (hs b h3 h4),hm.2⟩⟩,fun i hi=>(h6 i hi).same hs h1 h2 h3 h4⟩
theorem FunsM.plain {md:Bool} {lo hi:Nat} {w:World} {a:Option Addr} {xs:List GFun} (h:FunsM md w lo hi a xs):FunsM false w lo hi a xs:=by
 rcases h with rfl|⟨b,off,rfl,h3,h4,h5,h6⟩
 ·exact .inl rfl
 ·exact .inr ⟨b,off,rfl,h3,h4,fun e=>(by cases e),fun i hi=>(h6 i hi).plain⟩
theorem FunsM.keep {md:Bool} {lo hi:Nat} {w w':World} {a:Option Addr} {xs:List GFun} (h:FunsM md w lo hi a xs) (hb:Below hi w w'):FunsM md w' lo hi a xs:=h.same (.of_below hb (Nat.le_refl _)) (Nat.le_refl _) (Nat.le_refl _)
theorem FunsM.wide {md:Bool} {lo hi lo' hi':Nat} {w:World} {a:Option Addr} {xs:List GFun} (h:FunsM md w lo hi a xs) (h1:lo'≤lo) (h2:hi≤hi'):FunsM md w lo' hi' a xs:=h.same (Same.refl _ _ _) h1 h2
def FunsB (N:Nat) (xs:List GFun):Prop:=xs.length≤N∧∀i,i<xs.length→FunB N (funAt' xs i)
theorem Tryz.infoFun:(Tryz.prog.info? 92).map (fun i=>(i.zero,i.size,i.bytes))=some (some (.agg #[.slice none 0 0,.int .i64 0,.int .i64 0,.bool false,.slice none 0 0,.slice none 0 0]),6,96):=by kernel_rfl
structure GProg where
 types:List (List Ty)
 glob:List Fd
 funs:List GFun
def GProg.d:GProg:=⟨[],[],[]⟩
def ProgAt (md:Bool) (w:World) (lo hi b o:Nat) (x:GProg):Prop :=
 ∃a0 c0 a1 c1 a2 c2,w.cell? ⟨b,o,none⟩=some (.slice a0 x.types.length c0)∧w.cell? ⟨b,o+1,none⟩=some (.slice a1 x.glob.length c1)∧w.cell? ⟨b,o+2,none⟩=some (.slice a2 x.funs.length c2)∧GroupsM md w lo hi a0 x.types∧FieldsM md w lo hi a1 x.glob∧FunsM md w lo hi a2 x.funs
theorem ProgAt.same {md:Bool} {lo hi lo' hi' b o:Nat} {w w':World} {x:GProg} (h:ProgAt md w lo hi b o x) (hs:Same lo hi w w') (h1:lo'≤lo) (h2:hi≤hi') (h3:lo≤b) (h4:b<hi):ProgAt md w' lo' hi' b o x:=by
 obtain⟨a0,c0,a1,c1,a2,c2,e0,e1,e2,l0,l1,l2⟩:=h
 exact⟨a0,c0,a1,c1,a2,c2,(hs.cell h3 h4).trans e0,(hs.cell h3 h4).trans e1,(hs.cell h3 h4).trans e2,l0.same hs h1 h2,l1.same hs h1 h2,l2.same hs h1 h2⟩
theorem ProgAt.plain {md:Bool} {lo hi b o:Nat} {w:World} {x:GProg} (h:ProgAt md w lo hi b o x):ProgAt false w lo hi b o x:=by
 obtain⟨a0,c0,a1,c1,a2,c2,e0,e1,e2,l0,l1,l2⟩:=h
 exact⟨a0,c0,a1,c1,a2,c2,e0,e1,e2,l0.plain,l1.plain,l2.plain⟩
def ProgB (N:Nat) (x:GProg):Prop:=GroupsB N x.types∧FieldsB N x.glob∧FunsB N x.funs
end Go.Proofs.YtpaneomkphjpcaaGreatDoor
