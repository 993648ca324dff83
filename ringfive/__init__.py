"""Fiverings: whole numbers of five rings."""
